/- 'copy' and 'append(s, make(..)...)' on rows of elements of k cells; a piece put into a row (stage 8). Conditions: those that each theorem names. -/
import Derived.Test.YtlkhmpfdajefiaaJoin1
import Derived.Laws.CopyRow
import Derived.Laws.Externs
import Derived.Lib.Overlaps
import Derived.Lib.AppendZerosOnto
namespace Go.Proofs.Ytlkhmpfdajefiaa.kit
open Go Go.RowKit Go.Proofs.Ytlkhmpfdajefiaa.nums
set_option linter.unusedVariables false

/-- A row in which cs lies from off on. -/
def laidAt (cur : Array Value) (off : Nat) (cs : List Value) : Array Value := (cur.toList.take off ++ cs ++ cur.toList.drop (off + cs.length)).toArray
theorem laidAt_size {cur : Array Value} {off : Nat} {cs : List Value} (h : off + cs.length ≤ cur.size) : (laidAt cur off cs).size = cur.size := by
  unfold laidAt
  simp only [List.size_toArray, List.length_append, List.length_take, List.length_drop, Array.length_toList]
  omega
theorem laidL_get (l : List Value) (off : Nat) (cs : List Value) (h : off + cs.length ≤ l.length) (j : Nat) : (l.take off ++ cs ++ l.drop (off + cs.length))[j]? = if j < off then l[j]? else if j < off + cs.length then cs[j - off]? else l[j]? := by
  by_cases h1 : j < off
  · rw [if_pos h1, List.append_assoc, List.getElem?_append_left (by rw [List.length_take]; omega), List.getElem?_take, if_pos h1]
  · rw [if_neg h1, List.append_assoc, List.getElem?_append_right (by rw [List.length_take]; omega), List.length_take, Nat.min_eq_left (by omega)]
    by_cases h2 : j < off + cs.length
    · rw [if_pos h2, List.getElem?_append_left (by omega)]
    · rw [if_neg h2, List.getElem?_append_right (by omega), List.getElem?_drop]
      congr 1; omega
/-- Two pieces laid one behind the other: what stood from q on goes on behind what is new at q. -/
theorem laid_two {L xs us : List Value} {N q k : Nat} (hx : L.take N = xs) (hN : xs.length = N) (hq : q ≤ N) (hu : us.length = k) (hL : N + k ≤ L.length) :
    (((L.take (q + k) ++ xs.drop q ++ L.drop (q + k + (xs.drop q).length)).take q ++ us ++ (L.take (q + k) ++ xs.drop q ++ L.drop (q + k + (xs.drop q).length)).drop (q + us.length)).take (N + k)) = xs.take q ++ us ++ xs.drop q := by
  have hd : (xs.drop q).length = N - q := by rw [List.length_drop, hN]
  apply List.ext_getElem?
  intro j
  have hlen : (L.take (q + k) ++ xs.drop q ++ L.drop (q + k + (xs.drop q).length)).length = L.length := by simp only [List.length_append, List.length_take, List.length_drop]; omega
  rw [List.getElem?_take]
  by_cases hj : j < N + k
  · rw [if_pos hj, laidL_get _ q us (by rw [hlen]; omega) j, laidL_get L (q + k) (xs.drop q) (by omega) j]
    by_cases h1 : j < q
    · rw [if_pos h1, if_pos (by omega), List.append_assoc, List.getElem?_append_left (by rw [List.length_take]; omega), List.getElem?_take, if_pos h1, ← hx, List.getElem?_take, if_pos (by omega)]
    · rw [if_neg h1]
      by_cases h2 : j < q + us.length
      · rw [if_pos h2, List.getElem?_append_left (by simp only [List.length_append, List.length_take]; omega), List.getElem?_append_right (by rw [List.length_take]; omega), List.length_take]
        congr 1; omega
      · rw [if_neg h2, if_neg (by omega), if_pos (by omega), List.getElem?_append_right (by simp only [List.length_append, List.length_take]; omega), List.length_append, List.length_take]
        congr 1; omega
  · rw [if_neg hj, List.getElem?_eq_none (by simp only [List.length_append, List.length_take, List.length_drop]; omega)]
/-- .. the other way about: what is new first. -/
theorem laid_two' {L xs us : List Value} {N q k : Nat} (hx : L.take q = xs.take q) (hN : xs.length = N) (hq : q ≤ N) (hu : us.length = k) (hL : N + k ≤ L.length) :
    (((L.take q ++ us ++ L.drop (q + us.length)).take (q + k) ++ xs.drop q ++ (L.take q ++ us ++ L.drop (q + us.length)).drop (q + k + (xs.drop q).length)).take (N + k)) = xs.take q ++ us ++ xs.drop q := by
  have hd : (xs.drop q).length = N - q := by rw [List.length_drop, hN]
  have e1 : (L.take q ++ us ++ L.drop (q + us.length)).take (q + k) = xs.take q ++ us := by
    rw [hx, List.take_append_of_le_length (by simp only [List.length_append, List.length_take]; omega)]
    exact List.take_of_length_le (by simp only [List.length_append, List.length_take]; omega)
  rw [e1, List.take_append_of_le_length (by simp only [List.length_append, List.length_take, hd]; omega)]
  exact List.take_of_length_le (by simp only [List.length_append, List.length_take, hd]; omega)
theorem run_copy_k {P : Program} (w : World) (t ty e : TypeId) (z : Value) (k by_ : Nat) (ht : P.underlying t = some (.slice e)) (h2 : (P.info? e).map (fun i => (i.zero, i.size, i.bytes)) = some (some z, k, by_))
    (g off dLen dCap : Nat) (cur : Array Value) (T : TypeId) (hg : w.heap[g]? = some (.cells cur T (0, 0))) (a : Addr) (sLen sCap m : Nat) (cs : List Value) (hm : Nat.min sLen dLen = m) (hn : cs.length = m * k)
    (hsrc : ∀ j v, cs[j]? = some v → w.cell? (a.add j) = some v) (hfit : off + cs.length ≤ cur.size) (h1 : ∀ v ∈ cs, v.oneCell' = true) :
    (Builtin.copy_ #[t, t] ty #[.slice (some ⟨g, off, none⟩) dLen dCap, .slice (some a) sLen sCap]).run P w = .ok (goInt m) (w.setRow g (laidAt cur off cs)) := by
  obtain ⟨i, hi, hz0, hz1, hz2⟩ := info_parts h2
  have hl := run_loadCells_list (P := P) w a cs hsrc
  have hst := run_storeCells_at P g off T cs 0 cur w hg (by simpa using hfit) h1
  rw [hn] at hl
  simp only [Nat.add_zero] at hst
  simp [Builtin.copy_, run_underlying ht, Builtin.lenOf, Builtin.firstCells, sizeOf, typeInfo, hi, hz1, hm, hl, hst, laidAt]
section
variable {P : Program} {w : World} {ops : Array Oper} {rest : List Oper} {o : Oper} {a : Act} {K : Act → World → Prop} {Q : Exit → Act → World → Prop} {E : Prop}
theorem wpList_copy_run (hgd : o.guard = none) (x y : Operand) (t u : TypeId) (ho : o.op = .call { callee := .builtin .copy, args := #[x, y], argTypes := #[t, u] }) (X Y : Value) (hx : a.eval x = X) (hy : a.eval y = Y) {v : Value} {w' : World}
    (hrun : (Builtin.copy_ #[t, u] o.type #[X, Y]).run P w = .ok v w') (h : wpList P ops Q rest (a.put o.dst v) w') : wpList P ops Q (o :: rest) a w := by
  refine wpList_plain hgd fun K hK => ?_
  subst hx hy
  unfold Oper.wp execOp
  simp only [ho, resolve, invoke, builtin, Sem.run_bind, Sem.run_pure, Result.andThen_ok, List.map_toArray, List.map_cons, List.map_nil, hrun]
  exact hK _ _ h
theorem wpList_appendz_run (hgd : o.guard = none) (x y : Operand) (t u : TypeId) (ho : o.op = .call { callee := .builtin .append, args := #[x, y], argTypes := #[t, u] }) (X Y : Value) (hx : a.eval x = X) (hy : a.eval y = Y) {v : Value} {w' : World}
    (hrun : (Builtin.append_ #[t, u] o.type #[X, Y]).run P w = .ok v w') (h : wpList P ops Q rest (a.put o.dst v) w') : wpList P ops Q (o :: rest) a w := by
  refine wpList_plain hgd fun K hK => ?_
  subst hx hy
  unfold Oper.wp execOp
  simp only [ho, resolve, invoke, builtin, Sem.run_bind, Sem.run_pure, Result.andThen_ok, List.map_toArray, List.map_cons, List.map_nil, hrun]
  exact hK _ _ h
theorem step_copy_run (hgd : o.guard = none) (x y : Operand) (t u : TypeId) (ho : o.op = .call { callee := .builtin .copy, args := #[x, y], argTypes := #[t, u] }) (X Y : Value) (hx : a.eval x = X) (hy : a.eval y = Y) {v : Value} {w' : World}
    (hrun : (Builtin.copy_ #[t, u] o.type #[X, Y]).run P w = .ok v w') (hK : K (a.put o.dst v) w') :
    if Region.wanted o (yielded ops a.tmps) = true then Oper.wp P o a w K Q else E := by
  have hw : Region.wanted o (yielded ops a.tmps) = true := by simp [Region.wanted, hgd]
  rw [if_pos hw]
  subst hx hy
  unfold Oper.wp execOp
  simp only [ho, resolve, invoke, builtin, Sem.run_bind, Sem.run_pure, Result.andThen_ok, List.map_toArray, List.map_cons, List.map_nil, hrun]
  exact hK
end
end Go.Proofs.Ytlkhmpfdajefiaa.kit
