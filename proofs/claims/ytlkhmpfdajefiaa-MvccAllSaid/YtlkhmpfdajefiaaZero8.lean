/- Memory of which cells are written over in place: what is there stays there, and what lies elsewhere is as it was (stage 8, MvccAll). Conditions: none. -/
import Derived.Test.YtlkhmpfdajefiaaJoin1
namespace Go.Proofs.Ytlkhmpfdajefiaa.kit
open Go Go.RowKit Go.Proofs.Ytlkhmpfdajefiaa.nums Go.Proofs.Ytlkhmpfdajefiaa.st Go.Proofs.Ytlkhmpfdajefiaa.mv
set_option linter.unusedVariables false

/-- The same blocks; those from lo up to D may hold other values. -/
structure Alk (lo D : Nat) (w w' : World) : Prop where
  os : w'.os = w.os
  tape : w'.tape = w.tape
  output : w'.output = w.output
  size : w'.heap.size = w.heap.size
  some : ∀ b j, (w.cell? ⟨b, j, none⟩).isSome = true → (w'.cell? ⟨b, j, none⟩).isSome = true
  froz : ∀ a, w'.frozen? a = w.frozen? a
  heap : ∀ q, q < lo ∨ D ≤ q → w'.heap[q]? = w.heap[q]?
section
variable {lo D : Nat} {w w' : World}
theorem Alk.refl (lo D : Nat) (w : World) : Alk lo D w w := ⟨rfl, rfl, rfl, rfl, fun _ _ h => h, fun _ => rfl, fun _ _ => rfl⟩
theorem Alk.put (h : Alk lo D w w') {b j : Nat} (h1 : lo ≤ b) (h2 : b < D) (v : Value) : Alk lo D w (w'.setCell ⟨b, j, none⟩ v) := by
  refine ⟨h.os, h.tape, h.output, by rw [← h.size]; simp [World.setCell], fun b' j' hs => ?_, fun a => by rw [World.frozen?_setCell]; exact h.froz a, fun q hq => (Below.heap_setCell w' ⟨b, j, none⟩ v q (show q ≠ b by omega)).trans (h.heap q hq)⟩
  have h3 := h.some b' j' hs
  by_cases he : (⟨b, j, none⟩ : Addr) = ⟨b', j', none⟩
  · rw [← he] at h3 ⊢
    obtain ⟨u, hu⟩ := Option.isSome_iff_exists.1 h3
    rw [World.cell?_setCell_same w' _ v hu]
    rfl
  · rw [World.cell?_setCell_other w' _ _ v he]
    exact h3
theorem Alk.below (h : Alk lo D w w') {B : Nat} (hB : B ≤ lo) : Below B w w' := ⟨h.os, h.tape, h.output, by rw [h.size]; exact Nat.le_refl _, fun q hq => h.heap q (.inl (by omega))⟩
theorem Alk.get (h : Alk lo D w w') {b o : Nat} {l : List Value} (hA : At w b o l) (i : Nat) (hi : i < l.length) : ∃ u, w'.cell? ⟨b, o + i, none⟩ = Option.some u :=
  Option.isSome_iff_exists.1 (h.some b (o + i) (by rw [hA i l[i] (List.getElem?_eq_getElem hi)]; rfl))
theorem Alk.get4 (h : Alk lo D w w') {b o : Nat} {l : List Value} (hA : At w b o l) (hl : l.length = 4) : ∃ a0 a1 a2 a3, w'.cell? ⟨b, o, none⟩ = Option.some a0 ∧ w'.cell? ⟨b, o + 1, none⟩ = Option.some a1 ∧ w'.cell? ⟨b, o + 2, none⟩ = Option.some a2 ∧ w'.cell? ⟨b, o + 3, none⟩ = Option.some a3 := by
  obtain ⟨a0, h0⟩ := h.get hA 0 (by omega)
  obtain ⟨a1, h1⟩ := h.get hA 1 (by omega)
  obtain ⟨a2, h2⟩ := h.get hA 2 (by omega)
  obtain ⟨a3, h3⟩ := h.get hA 3 (by omega)
  exact ⟨a0, a1, a2, a3, h0, h1, h2, h3⟩
theorem Alk.get12 (h : Alk lo D w w') {b o : Nat} {l : List Value} (hA : At w b o l) (hl : l.length = 12) : ∃ a0 a1 a2 a3 a4 a5 a6 a7 a8 a9 a10 a11, w'.cell? ⟨b, o, none⟩ = Option.some a0 ∧ w'.cell? ⟨b, o + 1, none⟩ = Option.some a1 ∧ w'.cell? ⟨b, o + 2, none⟩ = Option.some a2 ∧ w'.cell? ⟨b, o + 3, none⟩ = Option.some a3 ∧ w'.cell? ⟨b, o + 4, none⟩ = Option.some a4 ∧ w'.cell? ⟨b, o + 5, none⟩ = Option.some a5 ∧ w'.cell? ⟨b, o + 6, none⟩ = Option.some a6 ∧ w'.cell? ⟨b, o + 7, none⟩ = Option.some a7 ∧ w'.cell? ⟨b, o + 8, none⟩ = Option.some a8 ∧ w'.cell? ⟨b, o + 9, none⟩ = Option.some a9 ∧ w'.cell? ⟨b, o + 10, none⟩ = Option.some a10 ∧ w'.cell? ⟨b, o + 11, none⟩ = Option.some a11 := by
  obtain ⟨a0, h0⟩ := h.get hA 0 (by omega)
  obtain ⟨a1, h1⟩ := h.get hA 1 (by omega)
  obtain ⟨a2, h2⟩ := h.get hA 2 (by omega)
  obtain ⟨a3, h3⟩ := h.get hA 3 (by omega)
  obtain ⟨a4, h4⟩ := h.get hA 4 (by omega)
  obtain ⟨a5, h5⟩ := h.get hA 5 (by omega)
  obtain ⟨a6, h6⟩ := h.get hA 6 (by omega)
  obtain ⟨a7, h7⟩ := h.get hA 7 (by omega)
  obtain ⟨a8, h8⟩ := h.get hA 8 (by omega)
  obtain ⟨a9, h9⟩ := h.get hA 9 (by omega)
  obtain ⟨a10, h10⟩ := h.get hA 10 (by omega)
  obtain ⟨a11, h11⟩ := h.get hA 11 (by omega)
  exact ⟨a0, a1, a2, a3, a4, a5, a6, a7, a8, a9, a10, a11, h0, h1, h2, h3, h4, h5, h6, h7, h8, h9, h10, h11⟩
/-- The rows from k on still have their slices. -/
def RowsK (w w' : World) (g m k : Nat) : Prop := ∀ i, k ≤ i → i < m → w'.cell? ⟨g, i * 12 + 1, none⟩ = w.cell? ⟨g, i * 12 + 1, none⟩
theorem RowsK.refl (w : World) (g m k : Nat) : RowsK w w g m k := fun _ _ _ => rfl
theorem RowsK.other {g m k b j : Nat} (h : RowsK w w' g m k) (hb : b ≠ g) (v : Value) : RowsK w (w'.setCell ⟨b, j, none⟩ v) g m k := fun i h1 h2 => by
  rw [World.cell?_setCell_other w' _ _ v (fun e => hb (congrArg Addr.block e))]
  exact h i h1 h2
theorem RowsK.own {g m k j : Nat} (h : RowsK w w' g m (k + 1)) (hj : j < k * 12 + 12) (v : Value) : RowsK w (w'.setCell ⟨g, j, none⟩ v) g m (k + 1) := fun i h1 h2 => by
  rw [World.cell?_setCell_other w' _ _ v (fun e => by have e2 : j = i * 12 + 1 := congrArg Addr.off e; omega)]
  exact h i h1 h2
theorem RowsK.next {g m k : Nat} (h : RowsK w w' g m k) : RowsK w w' g m (k + 1) := fun i h1 h2 => h i (by omega) h2
/-- Versions lie in other blocks than rows of cells. -/
theorem apart_of {b g : Nat} {cur cur' : Array Value} (h1 : w.heap[b]? = some (.cells cur 47 (0, 0))) (h2 : w.heap[g]? = some (.cells cur' 45 (0, 0))) : b ≠ g := fun e => by
  subst e
  rw [h1] at h2
  simp only [Option.some.injEq, Obj.cells.injEq] at h2
  exact types_apart h2.2.1.symm
end
/-- A row of cells, whatever becomes of what lies above it: its slices, and that their versions lie in other blocks. -/
theorem own_shape {w z : World} {base m c k : Nat} {A : Option Addr} {cs : List CellL} (hO : OwnCs w base (.slice A m c) cs) (hz : Below w.heap.size w z) (hk : k < m) :
    ∃ (g : Nat) (As : Option Addr) (len cv : Nat) (l : List Value), A = some ⟨g, 0, none⟩ ∧ base ≤ g ∧ g < w.heap.size ∧ l.length = 12 ∧ l[1]? = some (.slice As len cv) ∧ len ≤ cv ∧ cv ≤ maxLen ∧ At z g (k * 12) l ∧ (∀ j, z.frozen? ⟨g, j, none⟩ = false) ∧
      ∀ v, v < len → ∃ gi oi l4, As = some ⟨gi, oi, none⟩ ∧ base ≤ gi ∧ gi < w.heap.size ∧ gi ≠ g ∧ l4.length = 4 ∧ At z gi (oi + v * 4) l4 ∧ ∀ j, z.frozen? ⟨gi, j, none⟩ = false := by
  obtain ⟨b, x, sv, rfl, hb1, hb2, hx, hV, hA⟩ := hO.at_ hk
  obtain ⟨_, cur, hcur⟩ := hO.block rfl
  have hV0 := hV
  obtain ⟨As, cv, rfl, h1, h2, h3⟩ := hV
  have hzc : z.heap[b]? = some (.cells cur 45 (0, 0)) := (hz.block b hb2).trans hcur
  refine ⟨b, As, x.vers.length, cv, _, rfl, hb1, hb2, cell_len x _, rfl, h1, h2, hA.below hb2 hz, fun j => frozen_of_row z b j cur _ hzc, fun v hv => ?_⟩
  obtain ⟨gi, oi, curi, rfl, hg1, hg2, hAt⟩ := h3 (by omega)
  have hgl := lt_of_block hg2
  have hzi : z.heap[gi]? = some (.cells curi 47 (0, 0)) := (hz.block gi hgl).trans hg2
  exact ⟨gi, oi, _, rfl, hg1, hgl, apart_of hg2 hcur, ver_len x.vers[v], (hAt v _ (List.getElem?_eq_getElem hv)).below hgl hz, fun j => frozen_of_row z gi j curi _ hzi⟩
end Go.Proofs.Ytlkhmpfdajefiaa.kit
