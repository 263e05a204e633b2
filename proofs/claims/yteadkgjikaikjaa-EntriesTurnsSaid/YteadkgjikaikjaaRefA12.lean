/- The document's entries: laws of append in a drawn region. Conditions: the log's numbers stay far from the ends of an int. -/
import Derived.Test.YteadkgjikaikjaaKitLg
import Derived.Test.YteadkgjikaikjaaTk
import Derived.Deep.RegionHeld3
import Derived.Deep.Cut
import Derived.Lib.Hide
namespace Go.Proofs.Yteadkgjikaikjaa.ref12
open Go Go.RowKit Go.Proofs.Yteadkgjikaikjaa.kit Go.Proofs.Yteadkgjikaikjaa.nums Go.Proofs.Yteadkgjikaikjaa.cf Go.Proofs.Yteadkgjikaikjaa.lg
set_option linter.unusedVariables false
theorem app_E {w : World} {base : Nat} (ty : TypeId) {A : Option Addr} {n c : Nat} {es : List EnL} (hown : OwnE w base (.slice A n c) es) {B : Nat} {X : Option Addr} {m xc : Nat} {news : List EnL} (hR : RdE w B X m news) (hb : n + m ≤ 3000000) (hbase : base ≤ w.heap.size) :
    ∃ v w', (Builtin.append_ #[28, 28] ty #[.slice A n c, .slice X m xc]).run Try.prog w = .ok v w' ∧ ∃ A' c', v = .slice A' (n + m) c' ∧ OwnE w' base (.slice A' (n + m) c') (es ++ news) ∧ Below base w w' ∧ w.grownBy w' (Value.ownBlock (.slice A n c)) := by
  obtain ⟨A', c', w', h1, h2, h3, h4⟩ := run_append_E w base ty A n c es hown B X m xc news hR hb hbase
  exact ⟨_, w', h1, A', c', rfl, h2, h3, h4⟩
theorem rd_one {w : World} {g : Nat} {x : EnL} (h : Blk 37 w g (enC x)) : RdE w w.heap.size (some ⟨g, 0, none⟩) 1 [x] := ⟨rfl, fun _ => ⟨g, 0, rfl, h.lt, fun i y hy => by
  rcases i with _ | i
  · obtain rfl := Option.some.inj hy; rw [Nat.zero_mul, Nat.add_zero]; exact row_at h
  · simp at hy⟩⟩
end Go.Proofs.Yteadkgjikaikjaa.ref12
