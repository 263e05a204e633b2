/- Words for walks of the landed core. Conditions: those that each theorem names. -/
import Derived.Deep.RegionHeld3
import Derived.Deep.Cut
import Derived.Lib.Hide
import Derived.Test.YtegnfkbmlalkeaaGreatSpJ3
import Derived.Test.YtegnfkbmlalkeaaGreatSpKitLg
import Derived.Test.YtegnfkbmlalkeaaGreatSpJ0
set_option linter.unusedVariables false
set_option maxHeartbeats 16000000
set_option maxRecDepth 10000
namespace Go.Proofs.YtegnfkbmlalkeaaGreat.kit
open Go Go.RowKit kit nums cf lg cr
def NotIn (g : Nat) (A : Option Addr) (n : Nat) : Prop := ∀ b off, 0 < n → A = some ⟨b, off, none⟩ → b ≠ g
def OldNew (s : Nat) (A : Option Addr) (n : Nat) (A' : Option Addr) (n' : Nat) : Prop := ∀ b off, 0 < n' → A' = some ⟨b, off, none⟩ → s ≤ b ∨ (0 < n ∧ ∃ o, A = some ⟨b, o, none⟩)
section
variable {w w' : World} {g B s s2 base n n' n1 n2 c : Nat} {A A' A1 A2 : Option Addr} {es : List EnL}
theorem NotIn.of_rd (h : RdE w B A n es) (hb : B ≤ g) : NotIn g A n := fun b off hn e => by have := h.block hn e; omega
theorem NotIn.of_own (h : OwnE w base (.slice A n c) es) (hg : g < base) : NotIn g A n := fun b off _ e => by have := (h.blk_lt b off e).1; omega
theorem NotIn.next (h : NotIn g A n) (ho : OldNew s A n A' n') (hg : g < s) : NotIn g A' n' := fun b off hn e => by
 rcases ho b off hn e with h1 | ⟨h1, o, h2⟩
 · omega
 · exact h b o h1 h2
theorem NotIn.nil (g : Nat) (A : Option Addr) : NotIn g A 0 := fun _ _ h => absurd h (by omega)
theorem OldNew.refl (s : Nat) (A : Option Addr) (n : Nat) : OldNew s A n A n := fun b off hn e => .inr ⟨hn, off, e⟩
theorem OldNew.own (h : OwnE w base (.slice A' n' c) es) (hs : s ≤ base) : OldNew s A n A' n' := fun b off _ e => .inl (Nat.le_trans hs (h.blk_lt b off e).1)
theorem OldNew.nil (s : Nat) (A : Option Addr) (n : Nat) (A' : Option Addr) : OldNew s A n A' 0 := fun _ _ h => absurd h (by omega)
theorem OldNew.trans (h1 : OldNew s A n A1 n1) (h2 : OldNew s2 A1 n1 A2 n2) (hs : s ≤ s2) : OldNew s A n A2 n2 := fun b off hn e => by
 rcases h2 b off hn e with h3 | ⟨h3, o, h4⟩
 · exact .inl (Nat.le_trans hs h3)
 · exact h1 b o h3 h4
theorem RdE.putN (h : RdE w B A n es) (hp : Put w w' g) (hn : NotIn g A n) : RdE w' B A n es := h.same (fun b off h0 e => hp.other b (hn b off h0 e))
theorem RdE.putS (h : RdE w w.heap.size A n es) (hp : Put w w' g) (hn : NotIn g A n) : RdE w' w'.heap.size A n es := by rw [hp.size]; exact h.putN hp hn
end
def OutL (w : World) (B : Nat) (v : Value) (ms : List MsL) : Prop := ∃ xs : List (MsL × Value), OwnM w B v xs ∧ xs.map Prod.fst = ms ∧ ∀ x ∈ xs, ∃ A n p, x.2 = .slice A n p ∧ OwnE w B (.slice A n p) x.1.es
section
variable {w w' : World} {g B B' n c : Nat} {v : Value} {ms : List MsL}
theorem OutL.nil (w : World) (B : Nat) : OutL w B (.slice none 0 0) [] := ⟨[], OwnM.nil w B, rfl, fun x hx => by cases hx⟩
theorem OutL.below (h : OutL w B v ms) (hb : Below w.heap.size w w') : OutL w' B v ms := by
 obtain ⟨xs, h1, h2, h3⟩ := h
 exact ⟨xs, h1.same (fun k _ hk => hb.block k hk), h2, fun x hx => by
  obtain ⟨A, n, p, e, h4⟩ := h3 x hx
  exact ⟨A, n, p, e, h4.below hb⟩⟩
theorem OutL.put (h : OutL w B v ms) (hp : Put w w' g) (hg : g < B) : OutL w' B v ms := by
 obtain ⟨xs, h1, h2, h3⟩ := h
 exact ⟨xs, h1.same (fun k hk _ => hp.other k (by have := (h1.lt k hk).1; omega)), h2, fun x hx => by
  obtain ⟨A, n, p, e, h4⟩ := h3 x hx
  exact ⟨A, n, p, e, h4.put hp hg⟩⟩
theorem OutL.more (h : OutL w B v ms) (hB : B' ≤ B) : OutL w B' v ms := by
 obtain ⟨xs, h1, h2, h3⟩ := h
 refine ⟨xs, ?_, h2, fun x hx => ?_⟩
 ·
  refine ⟨h1.1, ?_⟩
  rcases h1.2 with hn | ⟨q, cap, cur, rfl, hbq, r⟩
  · exact .inl hn
  · exact .inr ⟨q, cap, cur, rfl, Nat.le_trans hB hbq, r⟩
 ·
  obtain ⟨A, n, p, e, h4⟩ := h3 x hx
  exact ⟨A, n, p, e, h4.more hB⟩
theorem OutL.form (h : OutL w B v ms) : ∃ A c, v = .slice A ms.length c := by
 obtain ⟨xs, h1, h2, _⟩ := h
 obtain ⟨A, c, e⟩ := h1.form
 exact ⟨A, c, by rw [e, ← h2, List.length_map]⟩
theorem own_types {base base' : Nat} {u : Value} {xs : List (MsL × Value)} {es : List EnL} (h1 : OwnM w base v xs) (h2 : OwnE w base' u es) : ∀ k, v.ownBlock = some k → u.ownBlock ≠ some k := by
 intro k hk hk2
 rcases h1.2 with ⟨hv, _⟩ | ⟨q, cap, cur, rfl, _, hq, _⟩
 · rw [hv] at hk; cases hk
 ·
  rcases h2.2 with ⟨hv, _⟩ | ⟨q', cap', cur', rfl, _, hq', _⟩
  · rw [hv] at hk2; cases hk2
  ·
   have e1 : q = k := Option.some.inj hk
   have e2 : q' = k := Option.some.inj hk2
   subst e1; subst e2
   rw [hq] at hq'
   have := Option.some.inj hq'
   injection this with _ h _
   exact absurd h (by decide)
theorem own_of_keep {base : Nat} {u : Value} {es : List EnL} (h : OwnE w base u es) (hk : ∀ k, u.ownBlock = some k → w'.heap[k]? = w.heap[k]?) : OwnE w' base u es := by
 refine ⟨h.1, ?_⟩
 rcases h.2 with hn | ⟨q, cap, cur, rfl, hbq, hq, r⟩
 · exact .inl hn
 · exact .inr ⟨q, cap, cur, rfl, hbq, (hk q rfl).trans hq, r⟩
theorem OutL.app (w : World) (B : Nat) (ty : TypeId) (A : Option Addr) (n c : Nat) (ms : List MsL) (hn : ms.length = n) (h : OutL w B (.slice A n c) ms) (g : Nat) (x : MsL) (Am : Option Addr) (nm pm : Nat) (hx : Blk 49 w g (msC x (.slice Am nm pm))) (hE : OwnE w B (.slice Am nm pm) x.es) (hb : n ≤ 100000) (hbase : B ≤ w.heap.size) :
  ∃ v w', (Builtin.append_ #[38, 38] ty #[.slice A n c, .slice (some ⟨g, 0, none⟩) 1 1]).run Tryz.prog w = .ok v w' ∧ (∃ A' c', v = .slice A' (n + 1) c') ∧ OutL w' B v (ms ++ [x]) ∧ Below B w w' ∧ w.grownBy w' (Value.ownBlock (.slice A n c)) ∧ (∀ k, v.ownBlock = some k → (Value.slice A n c).ownBlock = some k ∨ w.heap.size ≤ k) := by
 obtain ⟨xs, h1, h2, h3⟩ := h
 have hl : xs.length = n := by rw [← hn, ← h2, List.length_map]
 obtain ⟨v, w', hr, hs, ho, hg, hf, hB⟩ := run_app_M w B ty A n c xs hl h1 g x Am nm pm hx hb hbase
 have hkeep : ∀ {u : Value} {es : List EnL}, OwnE w B u es → OwnE w' B u es := fun {u es} hu => own_of_keep hu (fun k hk => by
  have hlt := (World.ownsRow.lt hu k hk).2
  exact hg.block k hlt (fun e => own_types h1 hu k e.symm hk))
 refine ⟨v, w', hr, hs, ⟨xs ++ [(x, .slice Am nm pm)], ho, by rw [List.map_append, h2]; rfl, fun y hy => ?_⟩, hB, hg, hf⟩
 rcases List.mem_append.1 hy with hy | hy
 ·
  obtain ⟨A5, n5, p5, e5, h5⟩ := h3 y hy
  exact ⟨A5, n5, p5, e5, hkeep h5⟩
 ·
  rw [List.mem_singleton] at hy
  subst hy
  exact ⟨Am, nm, pm, rfl, hkeep hE⟩
theorem OutL.one {x : MsL} {A : Option Addr} {p : Nat} (hg : Blk 49 w g (msC x (.slice A n p))) (hE : OwnE w B (.slice A n p) x.es) (hb : B ≤ g) : OutL w B (.slice (some ⟨g, 0, none⟩) 1 1) [x] :=
 ⟨[(x, .slice A n p)], ⟨rfl, .inr ⟨g, 1, (msC x (.slice A n p)).toArray, rfl, hb, hg, Nat.le_refl _, by unfold maxLen; omega, rfl, rfl⟩⟩, rfl, fun y hy => by
  rw [List.mem_singleton] at hy
  subst hy
  exact ⟨A, n, p, rfl, hE⟩⟩
end
section
variable {P : Program} {w : World} {ops : Array Oper} {rest : List Oper} {o : Oper} {a : Act} {Q : Exit → Act → World → Prop}
theorem wpList_appR (hgd : o.guard = none) (s x : Operand) (t : TypeId) (ho : o.op = .call { callee := .builtin .append, args := #[s, x], argTypes := #[t, t] }) (V X : Value) (hs : a.eval s = V) (hx : a.eval x = X) (R : Value → World → Prop)
  (hrun : ∃ v w', (Builtin.append_ #[t, t] o.type #[V, X]).run P w = .ok v w' ∧ R v w') (h : ∀ v w', R v w' → wpList P ops Q rest (a.put o.dst v) w') : wpList P ops Q (o :: rest) a w := by
 refine wpList_plain hgd fun K hK => ?_
 obtain ⟨v, w', hr, hR⟩ := hrun
 subst hs hx
 unfold Oper.wp execOp
 simp only [ho, resolve, invoke, builtin, Sem.run_bind, Sem.run_pure, Result.andThen_ok, List.map_toArray, List.map_cons, List.map_nil, hr]
 exact hK _ _ (h _ _ hR)
theorem wpList_bsR (hgd : o.guard = none) (x : Operand) (t : TypeId) (ho : o.op = .buildSlice t 1 #[(0, x)]) (X : Value) (hx : a.eval x = X) (R : Value → World → Prop)
  (hrun : ∃ v w', (Instr.buildSlice t 1 #[(0, X)]).run P w = .ok v w' ∧ R v w') (h : ∀ v w', R v w' → wpList P ops Q rest (a.put o.dst v) w') : wpList P ops Q (o :: rest) a w := by
 refine wpList_plain hgd fun K hK => ?_
 obtain ⟨v, w', hr, hR⟩ := hrun
 subst hx
 unfold Oper.wp execOp
 simp only [ho, List.map_toArray, List.map_cons, List.map_nil, Sem.run_bind, Sem.run_pure, hr, Result.andThen_ok]
 exact hK _ _ (h _ _ hR)
end
theorem bs_M {w : World} {ops : Array Oper} {rest : List Oper} {o : Oper} {a : Act} {Q : Exit → Act → World → Prop} (hgd : o.guard = none) (x : Operand) (ho : o.op = .buildSlice 38 1 #[(0, x)]) (m : MsL) (A : Option Addr) (n p : Nat) (hx : a.eval x = msV m (.slice A n p))
  (h : ∀ w', Blk 49 w' w.heap.size (msC m (.slice A n p)) → Below w.heap.size w w' → wpList Tryz.prog ops Q rest (a.put o.dst (.slice (some ⟨w.heap.size, 0, none⟩) 1 1)) w') : wpList Tryz.prog ops Q (o :: rest) a w := by
 refine wpList_bsR hgd x _ ho _ hx _ (run_bsM2 m (.slice A n p) w) ?_
 rintro v w' ⟨rfl, h1, h2⟩
 exact h w' h1 h2
theorem app_M {w : World} {ops : Array Oper} {rest : List Oper} {o : Oper} {a : Act} {Q : Exit → Act → World → Prop} (hgd : o.guard = none) (s x : Operand) (ho : o.op = .call { callee := .builtin .append, args := #[s, x], argTypes := #[38, 38] }) (B : Nat) (A : Option Addr) (n c : Nat) (ms : List MsL) (hs : a.eval s = .slice A n c) (g : Nat) (hx : a.eval x = .slice (some ⟨g, 0, none⟩) 1 1) (hn : ms.length = n) (hO : OutL w B (.slice A n c) ms)
  (m : MsL) (Am : Option Addr) (nm pm : Nat) (hK : Blk 49 w g (msC m (.slice Am nm pm))) (hE : OwnE w B (.slice Am nm pm) m.es) (hb : n ≤ 100000) (hB : B ≤ w.heap.size)
  (h : ∀ A' c' w', OutL w' B (.slice A' (n + 1) c') (ms ++ [m]) → Below B w w' → wpList Tryz.prog ops Q rest (a.put o.dst (.slice A' (n + 1) c')) w') : wpList Tryz.prog ops Q (o :: rest) a w := by
 refine wpList_appR hgd s x _ ho _ _ hs hx _ (OutL.app w B o.type A n c ms hn hO g m Am nm pm hK hE hb hB) ?_
 rintro v w' ⟨⟨A', c', rfl⟩, h1, h2, -, -⟩
 exact h A' c' w' h1 h2
theorem own_two {w : World} {g B : Nat} {a b : List Value} (ha : a.length = 22) (hb' : b.length = 22) (hg : w.heap[g]? = some (.cells (a ++ b).toArray 49 (0, 0))) (hb : B ≤ g) : w.ownsRow B 49 22 (.slice (some ⟨g, 0, none⟩) 2 2) 2 (a ++ (b ++ [])) :=
 ⟨by simp [ha, hb'], .inr ⟨g, 2, (a ++ b).toArray, rfl, hb, hg, Nat.le_refl _, by unfold maxLen; omega, by simp [ha, hb'], by rw [List.append_nil]; exact List.take_of_length_le (by simp [ha, hb'])⟩⟩
theorem OutL.two {w : World} {g B : Nat} {x y : MsL} {A A2 : Option Addr} {n p n2 p2 : Nat} (hg : Blk 49 w g (msC x (.slice A n p) ++ msC y (.slice A2 n2 p2))) (hE : OwnE w B (.slice A n p) x.es) (hE2 : OwnE w B (.slice A2 n2 p2) y.es) (hb : B ≤ g) : OutL w B (.slice (some ⟨g, 0, none⟩) 2 2) [x, y] :=
 ⟨[(x, .slice A n p), (y, .slice A2 n2 p2)], own_two (ms_len _ _) (ms_len _ _) hg hb, rfl, fun z hz => by
  rcases List.mem_cons.1 hz with rfl | hz
  · exact ⟨A, n, p, rfl, hE⟩
  ·
   rw [List.mem_singleton] at hz
   subst hz
   exact ⟨A2, n2, p2, rfl, hE2⟩⟩
theorem crset_nx {w : World} {g : Nat} {E : TypeId} {c : CoL} {s : Value} (h : Blk E w g (crC c s)) {k : Nat} (hk : k < 10) (z : Int) : Blk E (w.setCell ⟨g, 25 + k, none⟩ (.int .i64 z)) g (crC { c with nx := upd c.nx k z } s) := by
 have h2 := h.set_ (25 + k) (.int .i64 z)
 match k, hk with
 | 0, _ => exact h2
 | 1, _ => exact h2
 | 2, _ => exact h2
 | 3, _ => exact h2
 | 4, _ => exact h2
 | 5, _ => exact h2
 | 6, _ => exact h2
 | 7, _ => exact h2
 | 8, _ => exact h2
 | 9, _ => exact h2
theorem crset_mt {w : World} {g : Nat} {E : TypeId} {c : CoL} {s : Value} (h : Blk E w g (crC c s)) {k : Nat} (hk : k < 10) (z : Int) : Blk E (w.setCell ⟨g, 35 + k, none⟩ (.int .i64 z)) g (crC { c with mt := upd c.mt k z } s) := by
 have h2 := h.set_ (35 + k) (.int .i64 z)
 match k, hk with
 | 0, _ => exact h2
 | 1, _ => exact h2
 | 2, _ => exact h2
 | 3, _ => exact h2
 | 4, _ => exact h2
 | 5, _ => exact h2
 | 6, _ => exact h2
 | 7, _ => exact h2
 | 8, _ => exact h2
 | 9, _ => exact h2
theorem ldEv {P : Program} {E : TypeId} {w : World} {g : Nat} {x : EnL} (h : Blk E w g (enC x)) : (loadCellsFrom ⟨g, 0, none⟩ 0 14 #[]).run P w = .ok (enC x).toArray w :=
 run_loadCells_list (P := P) w ⟨g, 0, none⟩ (enC x) (fun i v hv => by rw [Addr.add_lit, Nat.zero_add, h.cell]; exact hv)
theorem res4 {P : Program} {fn : Func} {tmps : Array Value} {t T n g : Nat} {w : World} {cs : Array Value} {t1 t2 t3 : Nat} {v1 v2 v3 : Value} (hr : fn.results = #[.cell t T, .tmp t1, .tmp t2, .tmp t3]) (ht : tmps[t]? = some (.pointer (some ⟨g, 0, none⟩))) (h1 : tmps[t1]? = some v1) (h2 : tmps[t2]? = some v2) (h3 : tmps[t3]? = some v3) (ha : (isAgg T).run P w = .ok true w) (hs : (sizeOf T).run P w = .ok n w) (hl : (loadCellsFrom ⟨g, 0, none⟩ 0 n #[]).run P w = .ok cs w) :
  (results fn tmps).run P w = .ok (.tuple #[.agg cs, v1, v2, v3]) w := by
 simp [results, asAddr, loadVar, loadCells, hr, ht, h1, h2, h3, ha, hs, hl]
theorem sizeF (w : World) : (sizeOf 25).run Tryz.prog w = .ok 5 w := by
 have h : (Tryz.prog.info? 25).map (·.size) = some 5 := by kernel_rfl
 cases hq : Tryz.prog.info? 25 with
 | none => simp [hq] at h
 | some i =>
  have hs : i.size = 5 := by simpa [hq] using h
  simp [sizeOf, typeInfo, hq, hs]
theorem aggF (w : World) : (isAgg 25).run Tryz.prog w = .ok true w := by
 simp [isAgg, run_underlying Tryz.underlying25]
section
variable {w : World} {ops : Array Oper} {rest : List Oper} {o : Oper} {a : Act} {Q : Exit → Act → World → Prop} {g off : Nat} {E : TypeId} {c : CfL}
theorem box_F (hgd : o.guard = none) (p : Operand) (ho : o.op = .box 25 p) (c : CfL) (hx : a.eval p = cfV c)
  (h : ∀ w', Blk 25 w' w.heap.size (cfC c) → Below w.heap.size w w' → Hid (w'.heap.size = w.heap.size + 1) → wpList Tryz.prog ops Q rest (a.put o.dst (.pointer (some ⟨w.heap.size, 0, none⟩))) w') : wpList Tryz.prog ops Q (o :: rest) a w :=
 wpList_box hgd _ p ho _ hx h
theorem lo_F (p : Operand) (ho : o.op = .load 25 p) (hw : Region.wanted o (yielded ops a.tmps) = true) (hp : a.eval p = .pointer (some ⟨g, 0, none⟩)) (hK : Blk E w g (cfC c))
  (h : wpList Tryz.prog ops Q rest (a.put o.dst (cfV c)) w) : wpList Tryz.prog ops Q (o :: rest) a w :=
 wpList_ldw hw _ p ho g (cfC c) E hp hK (aggF _) (sizeF _) h
theorem lo_Fj {p : Operand} (hK : Blk E w g (cfC c)) (h : wpList Tryz.prog ops Q rest (a.put o.dst (cfV c)) w) (ho : o.op = .load 25 p := by rfl) (hw : Region.wanted o (yielded ops a.tmps) = true := by rfl) (hp : a.eval p = .pointer (some ⟨g, 0, none⟩) := by rfl) : wpList Tryz.prog ops Q (o :: rest) a w := lo_F p ho hw hp hK h
theorem at_eF {x : EnL} (h : Blk E w g (enC x)) : At w g 8 (cfC x.j.b) := Blk.at_ (pre := (enC x).take 8) (mid := cfC x.j.b) (post := (enC x).drop 13) h
theorem lo_eF {x : EnL} (p : Operand) (ho : o.op = .load 25 p) (hw : Region.wanted o (yielded ops a.tmps) = true) (hp : a.eval p = .pointer (some ⟨g, 8, none⟩)) (hK : Blk E w g (enC x))
  (h : wpList Tryz.prog ops Q rest (a.put o.dst (cfV x.j.b)) w) : wpList Tryz.prog ops Q (o :: rest) a w :=
 wpList_ldAt p ho hw (cells := cfC x.j.b) hp (at_eF hK) (aggF _) (sizeF _) h
end
theorem ldMv {P : Program} {E : TypeId} {w : World} {g : Nat} {m : MsL} {s : Value} (h : Blk E w g (msC m s)) : (loadCellsFrom ⟨g, 0, none⟩ 0 22 #[]).run P w = .ok (msC m s).toArray w :=
 by
 have := run_loadCells_list (P := P) w ⟨g, 0, none⟩ (msC m s) (fun j v hv => by rw [Addr.add_lit, Nat.zero_add, h.cell j]; exact hv)
 rwa [ms_len] at this
end Go.Proofs.YtegnfkbmlalkeaaGreat.kit
