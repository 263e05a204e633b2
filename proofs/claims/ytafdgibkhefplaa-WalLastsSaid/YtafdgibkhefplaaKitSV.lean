/- Laws of slice expressions on any slice of one-cell elements: 's[:hi]'. Conditions: those that each theorem names. -/
import Derived.Test.YtafdgibkhefplaaKitS
namespace Go.Proofs.Ytafdgibkhefplaa.kit
open Go.RowKit
set_option linter.unusedVariables false

theorem RdV.sliced {w : World} {B n : Nat} {A : Option Addr} {xs : List Value} (h : RdV w B A n xs) {q m : Nat} (hq : q ≤ n) (hm : q ≤ m) :
    ∃ A', Go.sliced A 0 q m 1 = .slice A' q m ∧ RdV w B A' q (xs.take q) := by
  refine ⟨_, rfl, ?_⟩
  have hl := h.1
  by_cases h0 : q = 0
  · subst h0; rw [List.take_zero]; exact RdV.nil _ _ _
  · obtain ⟨b, o, rfl, hb, hc⟩ := h.2 (by omega)
    rw [if_neg (by omega)]
    refine ⟨by rw [List.length_take]; omega, fun _ => ⟨b, o, by simp [Addr.add], hb, fun j hj => ?_⟩⟩
    rw [hc j (by omega), List.getElem?_take, if_pos hj]
theorem RdS.pre {w : World} {B n : Nat} {A : Option Addr} {L : List (List Int)} (h : RdS w B A n L) {q m : Nat} (hq : q ≤ n) (hm : q ≤ m) :
    ∃ A', Go.sliced A 0 q m 1 = .slice A' q m ∧ RdS w B A' q (L.take q) := by
  obtain ⟨xs, hV, hl, hS⟩ := h
  obtain ⟨A', e, hV'⟩ := hV.sliced hq hm
  refine ⟨A', e, xs.take q, hV', by rw [List.length_take]; omega, fun j x l hx hl2 => ?_⟩
  rw [List.getElem?_take] at hx hl2
  by_cases hj : j < q
  · rw [if_pos hj] at hx hl2; exact hS j x l hx hl2
  · rw [if_neg hj] at hx; cases hx
section
variable {P : Program} {w : World} {ops : Array Oper} {rest : List Oper} {o : Oper} {a : Act} {Q : Exit → Act → World → Prop}
/-- 's[:hi]', of slices. -/
theorem wpList_slice_hs (hgd : o.guard = none) (s hi : Operand) (t : TypeId) (ho : o.op = .slice t s none (some hi) none) (e : TypeId) (ht : P.underlying t = some (.slice e)) (i : TypeInfo) (hi' : P.info? e = some i) (hz1 : i.size = 1)
    (A : Option Addr) (n c B : Nat) (L : List (List Int)) (hs : a.eval s = .slice A n c) (hR : RdS w B A n L) (kh : IntKind) (H : Int) (q : Nat) (hhi : a.eval hi = .int kh H) (hH : H = (q : Int)) (hq : q ≤ n) (hnc : n ≤ c)
    (h : ∀ A', RdS w B A' q (L.take q) → wpList P ops Q rest (a.put o.dst (.slice A' q c)) w) : wpList P ops Q (o :: rest) a w := by
  refine wpList_plain hgd fun K hK => ?_
  obtain ⟨A', e1, hR'⟩ := hR.pre hq (Nat.le_trans hq hnc)
  have he := elem_of ht
  have hrun := run_slice_h (P := P) w t A n c (by rw [he]; exact ht) kh H (by omega) (by omega)
  rw [he, run_sizeOf_one hi' hz1, hH, Int.toNat_natCast] at hrun
  have hat := run_sliceAt_slice (P := P) w t (.slice A n c) none (some (.int kh H)) none (by rw [he]; exact ht)
  rw [hH] at hat
  unfold Oper.wp execOp
  simp only [ho, Option.map_some, Option.map_none, hs, hhi, hH, Sem.run_bind, hat, hrun, Result.andThen_ok, Sem.run_pure, e1]
  exact hK _ _ (h A' hR')
end
end Go.Proofs.Ytafdgibkhefplaa.kit
