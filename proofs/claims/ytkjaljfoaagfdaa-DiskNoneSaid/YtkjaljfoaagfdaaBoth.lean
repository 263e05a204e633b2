/- A program's disk beside the document's: what their worlds keep. Conditions: those that each theorem names. -/
import Derived.Test.YtkjaljfoaagfdaaDiskI
import Derived.Test.YtkjaljfoaagfdaaRef4
import Derived.Test.YtkjaljfoaagfdaaKitOp
namespace Go.Proofs.Ytkjaljfoaagfdaa.both
open Go.RowKit Go.Proofs.Ytkjaljfoaagfdaa.kit Go.Proofs.Ytkjaljfoaagfdaa.nums Go.Proofs.Ytkjaljfoaagfdaa.ds Go.Proofs.Ytkjaljfoaagfdaa.disk Go.Proofs.Ytkjaljfoaagfdaa.ref4
set_option linter.unusedVariables false

/-- The program's disk at a and the document's in block g are both the disk S; all that they are lies from block B on. -/
structure Both (w : World) (B a g : Nat) (S : DS) (fp : Nat → Prop) : Prop where
  d : IsDisk w a S fp
  r : IsRef w g S
  apart : ¬ fp g
  from_ : ∀ k, fp k → B ≤ k
  gB : B ≤ g
  good : S.Good
section
variable {w w' : World} {B a g : Nat} {S S' : DS} {fp fp' : Nat → Prop}
/-- Where nothing that is theirs turned. -/
theorem Both.same (h : Both w B a g S fp) (hd : ∀ k, fp k → w'.heap[k]? = w.heap[k]?) (hr : w'.heap[g]? = w.heap[g]?) : Both w' B a g S fp :=
  ⟨h.d.keep hd, h.r.keep hr, h.apart, h.from_, h.gB, h.good⟩
theorem Both.below (h : Both w B a g S fp) (hb : Below w.heap.size w w') : Both w' B a g S fp :=
  h.same (fun k hk => hb.block k (h.d.lt k hk)) (hb.block g h.r.lt)
/-- The program's disk turned. -/
theorem Both.turned (h : Both w B a g S fp) (hB : B ≤ w.heap.size) (hI : IsDisk w' a S' fp') (hc : Chg fp fp' w w') : ¬ fp' g ∧ (∀ k, fp' k → B ≤ k) ∧ IsRef w' g S ∧ Below B w w' := by
  refine ⟨fun hg => ?_, fun k hk => ?_, h.r.keep (hc.block g h.r.lt h.apart), ⟨hc.os, hc.tape, hc.output, hc.size, fun k hk => ?_⟩⟩
  · rcases hc.new g hg with h1 | h1
    · exact h.apart h1
    · have := h.r.lt; omega
  · rcases hc.new k hk with h1 | h1
    · exact h.from_ k h1
    · omega
  · exact hc.block k (by omega) (fun hf => by have := h.from_ k hf; omega)
/-- Then the document's did. -/
theorem Both.met (hI : IsDisk w a S' fp) (hR : IsRef w' g S') (hG : w.grownBy w' (some g)) (hap : ¬ fp g) (hf : ∀ k, fp k → B ≤ k) (hgB : B ≤ g) (hgood : S'.Good) : Both w' B a g S' fp :=
  ⟨hI.keep (fun k hk => hG.block k (hI.lt k hk) (by intro e; simp at e; subst e; exact hap hk)), hR, hap, hf, hgB, hgood⟩
theorem below_of_grown (hG : w.grownBy w' (some g)) (hgB : B ≤ g) (hB : B ≤ w.heap.size) : Below B w w' := ⟨hG.os, hG.tape, hG.output, hG.size, fun k hk => hG.block k (by omega) (by simp; omega)⟩
end
end Go.Proofs.Ytkjaljfoaagfdaa.both
