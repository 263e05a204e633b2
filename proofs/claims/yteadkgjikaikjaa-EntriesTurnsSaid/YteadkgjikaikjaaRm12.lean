/- Room behind a row of entries: make, append in place; an entry within a row that is loaded. Conditions: those that each theorem names. -/
import Derived.Test.YteadkgjikaikjaaVs12
import Derived.Laws.MakeOwn
import Derived.Laws.AppendOwn
import Derived.Test.YteadkgjikaikjaaKitLg
import Derived.Test.YteadkgjikaikjaaTk
import Derived.Deep.RegionHeld3
import Derived.Deep.Cut
import Derived.Lib.Hide
namespace Go.Proofs.Yteadkgjikaikjaa.kit
open Go Go.RowKit Go.Proofs.Yteadkgjikaikjaa.kit Go.Proofs.Yteadkgjikaikjaa.nums Go.Proofs.Yteadkgjikaikjaa.cf Go.Proofs.Yteadkgjikaikjaa.lg
set_option linter.unusedVariables false
theorem mk_E (c : Nat) : (madeCells zEc.toArray (c * 14)).toList = (List.replicate c zE).flatMap enC := by
  have hl := flat_length enC 14 en_len (List.replicate c zE)
  rw [List.length_replicate] at hl
  apply List.ext_getElem?
  intro j
  by_cases hj : j < c * 14
  · have hx : (List.replicate c zE)[j / 14]? = some zE := by
      rw [List.getElem?_replicate, if_pos (by omega)]
    have h := flat_get enC 14 en_len (List.replicate c zE) (j / 14) (j % 14) zE hx (by omega)
    rw [show j / 14 * 14 + j % 14 = j by omega] at h
    rw [h]
    have hm : j % 14 < 14 := by omega
    have h2 : ∀ k : Nat, k < 14 → some (zEc.toArray[k]!) = (enC zE)[k]? := by
      intro k hk
      match k, hk with
      | 0, _ => rfl
      | 1, _ => rfl
      | 2, _ => rfl
      | 3, _ => rfl
      | 4, _ => rfl
      | 5, _ => rfl
      | 6, _ => rfl
      | 7, _ => rfl
      | 8, _ => rfl
      | 9, _ => rfl
      | 10, _ => rfl
      | 11, _ => rfl
      | 12, _ => rfl
      | 13, _ => rfl
    rw [← h2 _ hm]
    simp only [madeCells, Array.toList_map, Array.toList_range, List.getElem?_map, List.getElem?_range hj, Option.map_some]
    rfl
  · rw [List.getElem?_eq_none (by rw [Array.length_toList, size_madeCells]; omega), List.getElem?_eq_none (by rw [hl]; omega)]
/-- make with room for n entries. -/
theorem run_mk (w : World) (kl kc : IntKind) (n : Nat) (hn : n ≤ 1000000) : ∃ v w', (Instr.makeSlice 28 (.int kl 0) (.int kc (n : Int))).run Try.prog w = .ok v w' ∧ v = .slice (some ⟨w.heap.size, 0, none⟩) 0 n ∧ Blk 37 w' w.heap.size ((List.replicate n zE).flatMap enC) ∧ Below w.heap.size w w' := by
  obtain ⟨i, hi, hz0, hz1, hz2⟩ := info_parts infoE
  have hr := run_make (P := Try.prog) w 28 37 i _ Try.underlying28 hi hz0 kl kc 0 (n : Int) (Int.le_refl _) (by omega) (by rw [hz2]; omega) (by omega)
  rw [hz1, Int.toNat_natCast, Int.toNat_zero] at hr
  refine ⟨_, _, hr, rfl, ?_, (Below.refl _ _).alloc (Nat.le_refl _) _⟩
  rw [← mk_E]
  exact heap_alloc_new w (.cells (madeCells zEc.toArray (n * 14)) 37)
theorem Put.refl (w : World) (g : Nat) : Put w w g := ⟨fun _ _ => rfl, fun _ _ h _ => h, rfl⟩
/-- append into the room. -/
theorem run_room (w : World) (ty : TypeId) (g c : Nat) (A : Option Addr) (n xc B : Nat) (es : List EnL) (hK : Blk 37 w g ((List.replicate c zE).flatMap enC)) (hR : RdE w B A n es) (hn : n ≤ c) :
    ∃ v w', (Builtin.append_ #[28, 28] ty #[.slice (some ⟨g, 0, none⟩) 0 c, .slice A n xc]).run Try.prog w = .ok v w' ∧ v = .slice (some ⟨g, 0, none⟩) n c ∧ Blk 37 w' g ((es ++ List.replicate (c - n) zE).flatMap enC) ∧ Put w w' g := by
  obtain ⟨i, hi, hz0, hz1, hz2⟩ := info_parts infoE
  have hl := flat_length enC 14 en_len es
  rw [hR.1] at hl
  have hdrop : ((List.replicate c zE).flatMap enC).drop (n * 14) = (List.replicate (c - n) zE).flatMap enC := by
    rw [show List.replicate c zE = List.replicate n zE ++ List.replicate (c - n) zE by rw [List.replicate_append_replicate]; congr 1; omega, List.flatMap_append]
    have h2 := flat_length enC 14 en_len (List.replicate n zE)
    rw [List.length_replicate] at h2
    rw [List.drop_append_of_le_length (by omega), List.drop_of_length_le (by omega), List.nil_append]
  rcases A with _ | ad
  · have hn0 : n = 0 := by
      rcases Nat.eq_zero_or_pos n with h0 | h0
      · exact h0
      · obtain ⟨b, o, h, _⟩ := hR.2 h0
        cases h
    subst hn0
    have hes : es = [] := List.eq_nil_of_length_eq_zero hR.1
    subst hes
    refine ⟨_, w, by simp [Builtin.append_, run_underlying Try.underlying28, sizeOf, typeInfo, hi, Builtin.lenOf, Builtin.firstCells, storeCells], rfl, ?_, Put.refl w g⟩
    rw [List.nil_append, Nat.sub_zero]; exact hK
  · have hcells : ∀ j u, (es.flatMap enC)[j]? = some u → w.cell? (ad.add j) = some u := fun j u hu => by
      have h0 : 0 < n := by
        rcases Nat.eq_zero_or_pos n with h0 | h0
        · have := (List.getElem?_eq_some_iff.1 hu).1
          omega
        · exact h0
      obtain ⟨b, o, e0, _, hA⟩ := hR.k.2 h0
      injection e0 with e0
      subst e0
      rw [Addr.add_lit]
      exact hA j u hu
    have hr := run_append_room (P := Try.prog) w 28 ty 37 i Try.underlying28 hi g 0 c _ hK ad n xc (es.flatMap enC) (by rw [hz1]; exact hl) hcells (flat_one es) (by omega) (by
      have h2 := flat_length enC 14 en_len (List.replicate c zE)
      rw [List.length_replicate] at h2
      rw [List.size_toArray, h2, hl, Nat.zero_mul]; omega)
    obtain ⟨k1, k2⟩ := put_setRow hK (List.take (0 * i.size) ((List.replicate c zE).flatMap enC).toArray.toList ++ es.flatMap enC ++ List.drop (0 * i.size + (es.flatMap enC).length) ((List.replicate c zE).flatMap enC).toArray.toList).toArray
    refine ⟨_, _, hr, by rw [Nat.zero_add], ?_, k2⟩
    rw [Nat.zero_mul, List.take_zero, List.nil_append, Nat.zero_add, hl] at k1
    simp only [] at k1
    rw [hdrop, ← List.flatMap_append] at k1
    rw [Nat.zero_mul, List.take_zero, List.nil_append, Nat.zero_add, hl]
    simp only []
    rw [hdrop, ← List.flatMap_append]
    exact k1
/-- What lies in a block of entries. -/
theorem at_blk {w : World} {g k : Nat} {es : List EnL} {x : EnL} (hK : Blk 37 w g (es.flatMap enC)) (hx : es[k]? = some x) : At w g (k * 14) (enC x) := fun i u hu => by
  have hi : i < 14 := (List.getElem?_eq_some_iff.1 hu).1
  rw [hK.cell, flat_get enC 14 en_len es k i x hx hi]; exact hu
theorem rd_blk {w : World} {g n : Nat} {es zs : List EnL} (hK : Blk 37 w g ((es ++ zs).flatMap enC)) (hn : es.length = n) : RdE w w.heap.size (some ⟨g, 0, none⟩) n es := ⟨hn, fun h0 => ⟨g, 0, rfl, hK.lt, fun j x hx => by
  rw [Nat.zero_add]
  exact at_blk hK (by rw [List.getElem?_append_left (List.getElem?_eq_some_iff.1 hx).1]; exact hx)⟩⟩
section
variable {P : Program} {w : World} {ops : Array Oper} {rest : List Oper} {o : Oper} {a : Act} {K : Act → World → Prop} {Q : Exit → Act → World → Prop} {E : Prop}
/-- A make in a region that draws its order, from what it runs to. -/
theorem step_mkR (hgd : o.guard = none) (l c : Operand) (t : TypeId) (ho : o.op = .makeSlice t l c) (V X : Value) (hs : a.eval l = V) (hx : a.eval c = X) (R : Value → World → Prop)
    (hrun : ∃ v w', (Instr.makeSlice t V X).run P w = .ok v w' ∧ R v w') (hK : ∀ v w', R v w' → K (a.put o.dst v) w') :
    if Region.wanted o (yielded ops a.tmps) = true then Oper.wp P o a w K Q else E := by
  have hw : Region.wanted o (yielded ops a.tmps) = true := by simp [Region.wanted, hgd]
  rw [if_pos hw]
  obtain ⟨v, w', hr, hR⟩ := hrun
  subst hs hx
  unfold Oper.wp execOp
  simp only [ho, Sem.run_bind, Sem.run_pure, Result.andThen_ok, hr]
  exact hK _ _ hR
end
/-- What a load of an entry within a row yields, in a drawn region. -/
theorem run_ldE {w : World} {a : Act} {o : Oper} {p : Operand} {g off : Nat} {x : EnL} (ho : o.op = .load 37 p) (hp : a.eval p = .pointer (some ⟨g, off, none⟩)) (hK : At w g off (enC x)) : (execOp a.eval o).run Try.prog w = .ok (.value (enV x)) w := by
  have hl := run_loadCells_list (P := Try.prog) w ⟨g, off, none⟩ (enC x) (fun i v hv => by rw [Addr.add_lit]; exact hK i v hv)
  have ha := aggE w
  have hs : (sizeOf 37).run Try.prog w = .ok (enC x).length w := sizeE w
  unfold execOp
  simp only [ho, hp, Instr.loadAt, Instr.sureAddr, loadVar, Sem.run_bind, Sem.run_pure, Result.andThen_ok, ha, hs, hl, if_true]
  rfl
/-- An own row whose block stays as it is. -/
theorem OwnE.wiped {w w' : World} {base : Nat} {v : Value} {es : List EnL} (h : OwnE w base v es) (hk : ∀ g, base ≤ g → g < w.heap.size → w'.heap[g]? = w.heap[g]?) : OwnE w' base v es := by
  refine ⟨h.1, ?_⟩
  rcases h.2 with hn | ⟨g, cap, cur, rfl, hbg, hg, r⟩
  · exact .inl hn
  · exact .inr ⟨g, cap, cur, rfl, hbg, (hk g hbg (lt_of_block hg)).trans hg, r⟩
theorem OwnE.blk_lt {w : World} {base n c : Nat} {A : Option Addr} {es : List EnL} (h : OwnE w base (.slice A n c) es) : ∀ b o, A = some ⟨b, o, none⟩ → base ≤ b ∧ b < w.heap.size := fun b o e => by
  rcases h.2 with ⟨hv, hn⟩ | ⟨g, cap, cur, hv, hbg, hg, r⟩
  · simp only [Value.slice.injEq] at hv
    rw [hv.1] at e; cases e
  · simp only [Value.slice.injEq] at hv
    rw [hv.1] at e
    have := Option.some.inj e
    simp only [Addr.mk.injEq] at this
    have h2 := lt_of_block hg
    omega
/-- How long what is made of a log is. -/
theorem laid_lenF (l : LgL) (prev : Int) (es : List EnL) : (laidF l prev es).length ≤ l.es.length + es.length := by
  unfold laidF
  dsimp only
  split
  · omega
  · simp only [List.length_append, List.length_take, List.length_drop]; omega
theorem merge_lenF (l : LgL) (prev term : Int) (es : List EnL) : (mergeF l prev term es).1.es.length ≤ l.es.length + es.length := by
  unfold mergeF
  split
  · exact laid_lenF l prev es
  · show l.es.length ≤ _; omega
theorem compact_lenF (l : LgL) (to : Int) : (compactF l to).1.es.length ≤ l.es.length := by
  unfold compactF
  split
  · show (l.es.drop _).length ≤ _; rw [List.length_drop]; omega
  · exact Nat.zero_le _
end Go.Proofs.Yteadkgjikaikjaa.kit
