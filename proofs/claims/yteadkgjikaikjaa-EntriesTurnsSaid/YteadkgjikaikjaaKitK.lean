/- Rows of elements of several cells in memory: reading, append (own work, taken out of the texts of stage 8). Conditions: those that each theorem names. -/
import Derived.Test.YteadkgjikaikjaaKitV
import Derived.Handy
namespace Go.Proofs.Yteadkgjikaikjaa.kit
open Go Go.RowKit Go.Proofs.Yteadkgjikaikjaa.nums
set_option linter.unusedVariables false

/-- The cells at ⟨b, o⟩ are the list. -/
def At (w : World) (b o : Nat) (l : List Value) : Prop := ∀ j u, l[j]? = some u → w.cell? ⟨b, o + j, none⟩ = some u
section
variable {w w' : World} {B B' : Nat}
theorem At.below {b o : Nat} {l : List Value} (h : At w b o l) (hlt : b < B) (hb : Below B w w') : At w' b o l := fun j u hu => (hb.cell (p := ⟨b, o + j, none⟩) hlt).trans (h j u hu)
/-- The cells, one by one. -/
theorem At.cells {b o : Nat} {l : List Value} (h : At w b o l) (j : Nat) (u : Value) (hu : l[j]? = some u) : w.cell? ⟨b, o + j, none⟩ = some u := h j u hu
end
theorem flat_get {α : Type} (f : α → List Value) (k : Nat) (hf : ∀ x, (f x).length = k) : ∀ (l : List α) (j i : Nat) (x : α), l[j]? = some x → i < k → (l.flatMap f)[j * k + i]? = (f x)[i]?
  | [], j, i, x, h, _ => by cases h
  | y :: l, 0, i, x, h, hi => by
    obtain rfl := Option.some.inj h
    rw [List.flatMap_cons, Nat.zero_mul, Nat.zero_add, List.getElem?_append_left (by rw [hf]; exact hi)]
  | y :: l, j + 1, i, x, h, hi => by
    rw [List.flatMap_cons, List.getElem?_append_right (by rw [hf, Nat.succ_mul]; omega), hf, show (j + 1) * k + i - k = j * k + i by rw [Nat.succ_mul]; omega]
    exact flat_get f k hf l j i x h hi
theorem flat_length {α : Type} (f : α → List Value) (k : Nat) (hf : ∀ x, (f x).length = k) : ∀ l : List α, (l.flatMap f).length = l.length * k
  | [] => by simp
  | y :: l => by rw [List.flatMap_cons, List.length_append, hf, flat_length f k hf l, List.length_cons, Nat.succ_mul]; omega
/-- The slice at A with m elements of k cells reads as the list. -/
def RdK (w : World) (B : Nat) (A : Option Addr) (m k : Nat) (l : List Value) : Prop := l.length = m * k ∧ (0 < m → ∃ b o, A = some ⟨b, o, none⟩ ∧ b < B ∧ At w b o l)
theorem run_append_src_none_k {P : Program} (w : World) (base : Nat) (t ty e : TypeId) (i : TypeInfo) (k : Nat) (ht : P.underlying t = some (.slice e)) (hi : P.info? e = some i)
    (v : Value) (n : Nat) (xs : List Value) (hown : w.ownsRow base e k v n xs) (c : Nat) :
    (Builtin.append_ #[t, t] ty #[v, .slice none 0 c]).run P w = .ok v w := by
  rcases hown.2 with ⟨rfl, rfl⟩ | ⟨g, cap, cur, rfl, _, _, hnc, _⟩
  · simp [Builtin.append_, run_underlying ht, sizeOf, typeInfo, hi, Builtin.lenOf, Builtin.firstCells]
  · simp [Builtin.append_, run_underlying ht, sizeOf, typeInfo, hi, Builtin.lenOf, Builtin.firstCells, hnc, storeCells]
/-- 'append(s, x...)', s the call's own, its elements of k cells. -/
theorem run_append_k {P : Program} (w : World) (base : Nat) (t ty e : TypeId) (z : Value) (k by_ : Nat) (ht : P.underlying t = some (.slice e)) (h2 : (P.info? e).map (fun i => (i.zero, i.size, i.bytes)) = some (some z, k, by_)) (hz : z.cells.size = k) (hk : 0 < k)
    (A : Option Addr) (n c : Nat) (xs : List Value) (hown : w.ownsRow base e k (.slice A n c) n xs)
    (B : Nat) (X : Option Addr) (m xc : Nat) (news : List Value) (hR : RdK w B X m k news) (h1 : ∀ u ∈ news, u.oneCell' = true) (hb : (n + m) * by_ ≤ 140737488355328) (h63 : n + m ≤ maxLen) (hbase : base ≤ w.heap.size) :
    ∃ A' c' w', (Builtin.append_ #[t, t] ty #[.slice A n c, .slice X m xc]).run P w = .ok (.slice A' (n + m) c') w' ∧ w'.ownsRow base e k (.slice A' (n + m) c') (n + m) (xs ++ news) ∧ Below base w w' ∧ w.grownBy w' (Value.ownBlock (.slice A n c)) := by
  obtain ⟨i, hi, hz0, hz1, hz2⟩ := info_parts h2
  have hm : news.length = m * k := hR.1
  have hfin : ∀ (v' : Value) (w' : World), w'.ownsRow base e k v' (n + m) (xs ++ news) → w.grownBy w' (Value.ownBlock (.slice A n c)) → ∃ A' c', v' = .slice A' (n + m) c' ∧ w'.ownsRow base e k (.slice A' (n + m) c') (n + m) (xs ++ news) ∧ Below base w w' := by
    intro v' w' h hg
    have hB : Below base w w' := (Below.refl base w).grown hg hbase (fun q hq => (hown.lt q hq).1)
    rcases h.2 with ⟨hv, hn⟩ | ⟨g, cap, cur, hv, _⟩
    · exact ⟨none, 0, by rw [hv, hn], by rw [hn] at h ⊢; rw [hv] at h; exact h, hB⟩
    · exact ⟨_, cap, hv, by rw [← hv]; exact h, hB⟩
  rcases X with _ | ad
  · have hm0 : m = 0 := by
      rcases Nat.eq_zero_or_pos m with h0 | h0
      · exact h0
      · obtain ⟨b, o, h, _⟩ := hR.2 h0
        cases h
    subst hm0
    have hnews : news = [] := List.eq_nil_of_length_eq_zero (by rw [hm]; omega)
    subst hnews
    refine ⟨A, c, w, run_append_src_none_k w base t ty e i k ht hi _ n xs hown xc, ?_, Below.refl _ _, World.grownBy.refl _ _⟩
    simpa using hown
  · rcases Nat.eq_zero_or_pos m with h0 | h0
    · subst h0
      have hnews : news = [] := List.eq_nil_of_length_eq_zero (by rw [hm]; omega)
      subst hnews
      obtain ⟨v', w', hrun, h3, h4, _⟩ := run_append_own (P := P) w base t ty e i z k by_ ht hi hz0 hz1 hz2 hz hk _ n xs hown ad 0 xc [] (by simp) (fun j u h => by cases h) (fun u h => by cases h) h63 hb hbase
      obtain ⟨A', c', rfl, hO, hB⟩ := hfin v' w' h3 h4
      exact ⟨A', c', w', hrun, hO, hB, h4⟩
    · obtain ⟨b, o, e0, _, hA⟩ := hR.2 h0
      injection e0 with e0
      subst e0
      have hcells : ∀ j u, news[j]? = some u → w.cell? ((⟨b, o, none⟩ : Addr).add j) = some u := fun j u hu => by
        rw [Addr.add_lit]
        exact hA j u hu
      obtain ⟨v', w', hrun, h3, h4, _⟩ := run_append_own (P := P) w base t ty e i z k by_ ht hi hz0 hz1 hz2 hz hk _ n xs hown ⟨b, o, none⟩ m xc news hm hcells h1 h63 hb hbase
      obtain ⟨A', c', rfl, hO, hB⟩ := hfin v' w' h3 h4
      exact ⟨A', c', w', hrun, hO, hB, h4⟩
theorem wpList_append_k {P : Program} {w : World} {ops : Array Oper} {rest : List Oper} {o : Oper} {a : Act} {Q : Exit → Act → World → Prop} (hgd : o.guard = none) (s x : Operand) (t : TypeId)
    (ho : o.op = .call { callee := .builtin .append, args := #[s, x], argTypes := #[t, t] }) (base : Nat) (e : TypeId) (z : Value) (k by_ : Nat) (ht : P.underlying t = some (.slice e)) (h2 : (P.info? e).map (fun i => (i.zero, i.size, i.bytes)) = some (some z, k, by_)) (hz : z.cells.size = k) (hk : 0 < k)
    (A : Option Addr) (n c : Nat) (xs : List Value) (hs : a.eval s = .slice A n c) (hown : w.ownsRow base e k (.slice A n c) n xs)
    (B : Nat) (X : Option Addr) (m xc : Nat) (news : List Value) (hx : a.eval x = .slice X m xc) (hR : RdK w B X m k news) (h1 : ∀ u ∈ news, u.oneCell' = true) (hb : (n + m) * by_ ≤ 140737488355328) (h63 : n + m ≤ maxLen) (hbase : base ≤ w.heap.size)
    (h : ∀ A' c' w', w'.ownsRow base e k (.slice A' (n + m) c') (n + m) (xs ++ news) → Below base w w' → w.grownBy w' (Value.ownBlock (.slice A n c)) → wpList P ops Q rest (a.put o.dst (.slice A' (n + m) c')) w') : wpList P ops Q (o :: rest) a w := by
  refine wpList_plain hgd fun K hK => ?_
  obtain ⟨A', c', w', hrun, h3, h4, h5⟩ := run_append_k (P := P) w base t o.type e z k by_ ht h2 hz hk A n c xs hown B X m xc news hR h1 hb h63 hbase
  unfold Oper.wp execOp
  simp only [ho, resolve, invoke, builtin, Sem.run_bind, Sem.run_pure, Result.andThen_ok, List.map_toArray, List.map_cons, List.map_nil, hs, hx, hrun]
  exact hK _ _ (h A' c' w' h3 h4 h5)
section
variable {P : Program} {w : World} {ops : Array Oper} {o : Oper} {a : Act} {K : Act → World → Prop} {Q : Exit → Act → World → Prop} {E : Prop}
/-- An append in a region that draws its order, from what it runs to. -/
theorem step_appR (hgd : o.guard = none) (s x : Operand) (t : TypeId) (ho : o.op = .call { callee := .builtin .append, args := #[s, x], argTypes := #[t, t] }) (V X : Value) (hs : a.eval s = V) (hx : a.eval x = X) (R : Value → World → Prop)
    (hrun : ∃ v w', (Builtin.append_ #[t, t] o.type #[V, X]).run P w = .ok v w' ∧ R v w') (hK : ∀ v w', R v w' → K (a.put o.dst v) w') :
    if Region.wanted o (yielded ops a.tmps) = true then Oper.wp P o a w K Q else E := by
  have hw : Region.wanted o (yielded ops a.tmps) = true := by simp [Region.wanted, hgd]
  rw [if_pos hw]
  obtain ⟨v, w', hr, hR⟩ := hrun
  subst hs hx
  unfold Oper.wp execOp
  simp only [ho, resolve, invoke, builtin, Sem.run_bind, Sem.run_pure, Result.andThen_ok, List.map_toArray, List.map_cons, List.map_nil, hr]
  exact hK _ _ hR
end
section
variable {w w' : World}
theorem lt_of_block {g : Nat} {o : Obj} (h : w.heap[g]? = some o) : g < w.heap.size := (Array.getElem?_eq_some_iff.1 h).1
theorem At.same {b o : Nat} {l : List Value} (h : At w b o l) (hb : w'.heap[b]? = w.heap[b]?) : At w' b o l := fun j u hu => (World.cell?_of_block (a := ⟨b, o + j, none⟩) hb).trans (h j u hu)
end
/-- A block that is laid anew, as a row. -/
theorem at_new (w : World) (E : TypeId) (l : List Value) : At (w.alloc (.cells l.toArray E)) w.heap.size 0 l := fun q u hu => by
  have k : Blk E (w.alloc (.cells l.toArray E)) w.heap.size l := heap_alloc_new w _
  rw [Nat.zero_add, k.cell q]
  exact hu
end Go.Proofs.Yteadkgjikaikjaa.kit
