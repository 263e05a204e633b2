/- Sums of one and of two slices that a call lays in a row for them: the program's Of and the document's. Conditions: what the slices read as. -/
import Derived.Test.YtafdgibkhefplaaSumW
import Derived.Test.YtafdgibkhefplaaJoin1
namespace Go.Proofs.Ytafdgibkhefplaa.ofs
open Go.RowKit Go.Proofs.Ytafdgibkhefplaa.kit Go.Proofs.Ytafdgibkhefplaa.nums Go.Proofs.Ytafdgibkhefplaa.crc
set_option linter.unusedVariables false

/-- A slice of slices that the call has laid: one, two. -/
theorem rds_one {w : World} {x : Value} {l : List Int} {E : TypeId} (hx : Sl w w.heap.size x l) : RdS (w.alloc (.cells #[x] E)) (w.heap.size + 1) (some ⟨w.heap.size, 0, none⟩) 1 [l] := by
  refine ⟨[x], RdV.one w E x, rfl, fun j y m hy hm => ?_⟩
  match j with
  | 0 => simp at hy hm; subst hy; subst hm; exact (hx.below ((Below.refl _ _).alloc (Nat.le_refl _) _)).more (by omega)
  | j + 1 => simp at hy
theorem RdV.two (w : World) (E : TypeId) (y z : Value) : RdV (w.alloc (.cells #[y, z] E)) (w.heap.size + 1) (some ⟨w.heap.size, 0, none⟩) 2 [y, z] := by
  refine ⟨rfl, fun _ => ⟨_, 0, rfl, by omega, fun j hj => ?_⟩⟩
  have hb : Blk E (w.alloc (.cells #[y, z] E)) w.heap.size [y, z] := heap_alloc_new w _
  rw [hb.cell, Nat.zero_add]
theorem rds_two {w : World} {x y : Value} {l m : List Int} {E : TypeId} (hx : Sl w w.heap.size x l) (hy : Sl w w.heap.size y m) : RdS (w.alloc (.cells #[x, y] E)) (w.heap.size + 1) (some ⟨w.heap.size, 0, none⟩) 2 [l, m] := by
  refine ⟨[x, y], RdV.two w E x y, rfl, fun j z k hz hk => ?_⟩
  match j with
  | 0 => simp at hz hk; subst hz; subst hk; exact (hx.below ((Below.refl _ _).alloc (Nat.le_refl _) _)).more (by omega)
  | 1 => simp at hz hk; subst hz; subst hk; exact (hy.below ((Below.refl _ _).alloc (Nat.le_refl _) _)).more (by omega)
  | j + 2 => simp at hz
theorem allB_two {l m : List Int} (h : Byt l) (hl : l.length ≤ 1099511627776) (k : Byt m) (hm : m.length ≤ 1099511627776) : AllB [l, m] := fun x hx => by
  simp only [List.mem_cons, List.not_mem_nil, or_false] at hx
  rcases hx with rfl | rfl
  · exact ⟨h, hl⟩
  · exact ⟨k, hm⟩
theorem flat_two (l m : List Int) : [l, m].flatten = l ++ m := by simp
theorem of_two {E : TypeId} {w : World} {x y : Value} {l m : List Int} (hx : Sl w w.heap.size x l) (hy : Sl w w.heap.size y m) (h : Byt l) (hl : l.length ≤ 1099511627776) (k : Byt m) (hm : m.length ≤ 1099511627776) :
    Calls Try.prog 81 #[.slice (some ⟨w.heap.size, 0, none⟩) 2 2] (w.alloc (.cells #[x, y] E)) fun e w' => e = .returned (.int .u32 ((ofC (l ++ m) : Nat) : Int)) ∧ Below w.heap.size w w' := by
  have := sum.of_any (some ⟨w.heap.size, 0, none⟩) 2 2 [l, m] (w.alloc (.cells #[x, y] E)) (by simpa using rds_two (E := E) hx hy) (allB_two h hl k hm) (by omega)
  rw [flat_two] at this
  exact this.mono fun e w' ⟨h1, h2⟩ => ⟨h1, ((Below.refl _ _).alloc (Nat.le_refl _) _).trans (h2.mono (by simp))⟩
theorem rof_two {w : World} {x y : Value} {l m : List Int} (hx : Sl w w.heap.size x l) (hy : Sl w w.heap.size y m) (h : Byt l) (hl : l.length ≤ 1099511627776) (k : Byt m) (hm : m.length ≤ 1099511627776) :
    Calls Try.prog 63 #[.slice (some ⟨w.heap.size, 0, none⟩) 2 2] (w.alloc (.cells #[x, y] 35)) fun e w' => e = .returned (.int .u32 ((ofC (l ++ m) : Nat) : Int)) ∧ Below w.heap.size w w' := by
  have := ref2.of_any (some ⟨w.heap.size, 0, none⟩) 2 2 [l, m] (w.alloc (.cells #[x, y] 35)) _ (by simpa using rds_two (E := 35) hx hy) (allB_two h hl k hm) (by omega)
  rw [flat_two] at this
  exact this.mono fun e w' ⟨h1, h2⟩ => ⟨h1, by rw [← h2]; exact (Below.refl _ _).alloc (Nat.le_refl _) _⟩
end Go.Proofs.Ytafdgibkhefplaa.ofs
