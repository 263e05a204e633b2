/- A program's disk alone: what its world keeps. Conditions: those that each theorem names. -/
import Derived.Test.YtkjaljfoaagfdaaLight
namespace Go.Proofs.Ytkjaljfoaagfdaa.both
open Go.RowKit Go.Proofs.Ytkjaljfoaagfdaa.kit Go.Proofs.Ytkjaljfoaagfdaa.nums Go.Proofs.Ytkjaljfoaagfdaa.ds Go.Proofs.Ytkjaljfoaagfdaa.disk Go.Proofs.Ytkjaljfoaagfdaa.bytes Go.Proofs.Ytkjaljfoaagfdaa.law0
set_option linter.unusedVariables false

/-- The program's disk alone; all that it is lies from block B on. -/
structure Alone (w : World) (B a : Nat) (S : DS) (fp : Nat → Prop) : Prop where
  d : IsDisk w a S fp
  from_ : ∀ k, fp k → B ≤ k
  good : S.Good
section
variable {w w' : World} {B a : Nat} {S S' : DS} {fp fp' : Nat → Prop}
theorem Alone.below (h : Alone w B a S fp) (hb : Below w.heap.size w w') : Alone w' B a S fp := ⟨h.d.keep (fun k hk => hb.block k (h.d.lt k hk)), h.from_, h.good⟩
theorem Alone.turned (h : Alone w B a S fp) (hB : B ≤ w.heap.size) (hI : IsDisk w' a S' fp') (hc : Chg fp fp' w w') (hg : S'.Good) : Alone w' B a S' fp' ∧ Below B w w' :=
  ⟨⟨hI, fun k hk => by rcases hc.new k hk with h1 | h1; exact h.from_ k h1; omega, hg⟩, ⟨hc.os, hc.tape, hc.output, hc.size, fun k hk => hc.block k (by omega) (fun hf => by have := h.from_ k hf; omega)⟩⟩
theorem Alone.apart (h : Alone w B a S fp) {A : Option Addr} {n : Nat} {l : List Int} {u : World} (hR : Rd u B A n l) (hn : 0 < n) : ∀ b o, A = some ⟨b, o, none⟩ → ¬ fp b := fun b o e hf => by
  obtain ⟨b', o', e', hlt, _⟩ := hR.2 hn
  rw [e] at e'
  simp only [Option.some.injEq, Addr.mk.injEq, and_true] at e'
  have := h.from_ b hf
  omega
theorem Alone.apartV (h : Alone w B a S fp) {A : Option Addr} {n : Nat} {l : List Value} {u : World} (hR : RdV u B A n l) (hn : 0 < n) : ∀ b o, A = some ⟨b, o, none⟩ → ¬ fp b := fun b o e hf => by
  obtain ⟨b', o', e', hlt, _⟩ := hR.2 hn
  rw [e] at e'
  simp only [Option.some.injEq, Addr.mk.injEq, and_true] at e'
  have := h.from_ b hf
  omega
end
end Go.Proofs.Ytkjaljfoaagfdaa.both
