/- Two blocks that are turned, and nothing else of what was there. It speaks of no program. -/
import Derived.Test.YtfcljdpjjabhjaaDoorKit
namespace Go.Proofs.YtfcljdpjjabhjaaDoor.kit
open Go Go.RowKit
set_option linter.unusedVariables false

structure Turn2 (p q : Nat) (w w' : World) : Prop where
  os : w'.os = w.os
  tape : w'.tape = w.tape
  output : w'.output = w.output
  size : w.heap.size ≤ w'.heap.size
  block : ∀ k, k < w.heap.size → k ≠ p → k ≠ q → w'.heap[k]? = w.heap[k]?
section
variable {p q B : Nat} {w w' w'' : World}
theorem Turn2.refl (p q : Nat) (w : World) : Turn2 p q w w := ⟨rfl, rfl, rfl, Nat.le_refl _, fun _ _ _ _ => rfl⟩
theorem Turn2.below (h : Turn2 p q w w') (hb : Below w'.heap.size w' w'') : Turn2 p q w w'' :=
  ⟨hb.os.trans h.os, hb.tape.trans h.tape, hb.output.trans h.output, Nat.le_trans h.size hb.size, fun k h1 h2 h3 => (hb.block k (Nat.lt_of_lt_of_le h1 h.size)).trans (h.block k h1 h2 h3)⟩
theorem Turn2.trans (h : Turn2 p q w w') (hb : Turn2 p q w' w'') : Turn2 p q w w'' :=
  ⟨hb.os.trans h.os, hb.tape.trans h.tape, hb.output.trans h.output, Nat.le_trans h.size hb.size, fun k h1 h2 h3 => (hb.block k (Nat.lt_of_lt_of_le h1 h.size) h2 h3).trans (h.block k h1 h2 h3)⟩
theorem Turn2.setP (h : Turn2 p q w w') (o : Nat) (u : Value) : Turn2 p q w (w'.setCell ⟨p, o, none⟩ u) :=
  ⟨h.os, h.tape, h.output, by simpa [World.setCell] using h.size, fun k h1 h2 h3 => (Below.heap_setCell w' ⟨p, o, none⟩ u k h2).trans (h.block k h1 h2 h3)⟩
theorem Turn2.setQ (h : Turn2 p q w w') (o : Nat) (u : Value) : Turn2 p q w (w'.setCell ⟨q, o, none⟩ u) :=
  ⟨h.os, h.tape, h.output, by simpa [World.setCell] using h.size, fun k h1 h2 h3 => (Below.heap_setCell w' ⟨q, o, none⟩ u k h3).trans (h.block k h1 h2 h3)⟩
theorem below_turned {W : World} (hB : Below B W w) (h : Turn2 p q w w') (hs : B ≤ w.heap.size) (hp : B ≤ p) (hq : B ≤ q) : Below B W w' :=
  hB.trans ⟨h.os, h.tape, h.output, h.size, fun k hk => h.block k (by omega) (by omega) (by omega)⟩
theorem Turn2.blk {E : TypeId} {g : Nat} {cs : List Value} (h : Turn2 p q w w') (k : Blk E w g cs) (hp : g ≠ p) (hq : g ≠ q) : Blk E w' g cs := (h.block g k.lt hp hq).trans k
end
end Go.Proofs.YtfcljdpjjabhjaaDoor.kit
