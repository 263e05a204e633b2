/- Single steps of a region that draws its order: an append, a store into a map; an append onto a file's bytes. Conditions: those that each theorem names. -/
import Derived.Test.YtafdgibkhefplaaJoin1
import Derived.Test.YtafdgibkhefplaaMap2
import Derived.Deep.AppendLies
namespace Go.Proofs.Ytafdgibkhefplaa.kit
open Go.RowKit Go.Proofs.Ytafdgibkhefplaa.nums
set_option linter.unusedVariables false

theorem Rd.toV {w : World} {B n : Nat} {A : Option Addr} {l : List Int} (h : Rd w B A n l) : RdV w B A n (u8s l) := by
  refine ⟨by rw [u8s_length, h.1], fun hn => ?_⟩
  obtain ⟨b, o, e, hb, hc⟩ := h.2 hn
  exact ⟨b, o, e, hb, fun j hj => by rw [hc j hj, u8s_getElem? l j (by rw [h.1]; exact hj)]⟩
/-- What 'append(s, xs...)' makes of an own slice: a slice with the bytes of both, in its block or in a new one; nothing else turns. -/
def Grew (E : TypeId) (w : World) (v : Value) (n : Nat) (l : List Int) (v' : Value) (w' : World) : Prop :=
  ∃ A' c', v' = .slice A' n c' ∧ Own E w' 0 v' l ∧ w.grownBy w' v.ownBlock ∧ ∀ k, v'.ownBlock = some k → v.ownBlock = some k ∨ w.heap.size ≤ k
theorem run_grew {P : Program} (w : World) (t ty e : TypeId) (ht : P.underlying t = some (.slice e)) (h2 : (P.info? e).map (fun i => (i.zero, i.size, i.bytes)) = some (some (.int .u8 0), 1, 1))
    (A : Option Addr) (n c : Nat) (l : List Int) (hn : l.length = n) (hown : Own e w 0 (.slice A n c) l)
    (B : Nat) (X : Option Addr) (m xc : Nat) (news : List Int) (hR : Rd w B X m news) (hb : n + m ≤ 140737488355328) :
    ∃ v' w', (Builtin.append_ #[t, t] ty #[.slice A n c, .slice X m xc]).run P w = .ok v' w' ∧ Grew e w (.slice A n c) (n + m) (l ++ news) v' w' := by
  obtain ⟨A', c', w', hrun, h3, _, h5⟩ := run_append_rd (P := P) w 0 t ty e ht h2 A n c l hn hown B X m xc news hR hb (Nat.zero_le _)
  have hV : OwnV e w 0 (.slice A n c) (u8s l) := by unfold OwnV; rw [u8s_length]; exact hown
  have hfr := run_append_fresh (P := P) w 0 t ty e (.int .u8 0) 1 ht h2 rfl A n c (u8s l) (by rw [u8s_length, hn]) hV B X m xc (u8s news) hR.toV (u8s_one _) (by omega) (by unfold maxLen; omega) hrun
  exact ⟨_, w', hrun, A', c', rfl, h3, h5, hfr⟩
section
variable {P : Program} {w : World} {ops : Array Oper} {o : Oper} {a : Act} {K : Act → World → Prop} {Q : Exit → Act → World → Prop} {E : Prop}
theorem step_append (hgd : o.guard = none) (s x : Operand) (t : TypeId) (ho : o.op = .call { callee := .builtin .append, args := #[s, x], argTypes := #[t, t] }) (V X : Value) (hs : a.eval s = V) (hx : a.eval x = X) (R : Value → World → Prop)
    (hrun : ∃ v w', (Builtin.append_ #[t, t] o.type #[V, X]).run P w = .ok v w' ∧ R v w') (hK : ∀ v w', R v w' → K (a.put o.dst v) w') :
    if Region.wanted o (yielded ops a.tmps) = true then Oper.wp P o a w K Q else E := by
  have hw : Region.wanted o (yielded ops a.tmps) = true := by simp [Region.wanted, hgd]
  rw [if_pos hw]
  obtain ⟨v, w', hr, hR⟩ := hrun
  subst hs hx
  unfold Oper.wp execOp
  simp only [ho, resolve, invoke, builtin, Sem.run_bind, Sem.run_pure, Result.andThen_ok, List.map_toArray, List.map_cons, List.map_nil, hr]
  exact hK _ _ hR
theorem step_put (hgd : o.guard = none) (m x v : Operand) (t : TypeId) (ho : o.op = Op.mapUpdate t m x v) (M X V : Value) (hm : a.eval m = M) (hx : a.eval x = X) (hv : a.eval v = V) (R : World → Prop)
    (hrun : ∃ w', (Instr.mapUpdate t M X V).run P w = .ok () w' ∧ R w') (hK : ∀ w', R w' → K (a.put o.dst undef) w') :
    if Region.wanted o (yielded ops a.tmps) = true then Oper.wp P o a w K Q else E := by
  have hw : Region.wanted o (yielded ops a.tmps) = true := by simp [Region.wanted, hgd]
  rw [if_pos hw]
  obtain ⟨w', hr, hR⟩ := hrun
  subst hm hx hv
  unfold Oper.wp
  simp [execOp, ho, hr, Result.andThen]
  exact hK _ hR
end
end Go.Proofs.Ytafdgibkhefplaa.kit
