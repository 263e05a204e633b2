/- The document's run: an answer is heard. Conditions: those that the theorem names. -/
import Derived.ArgAppend
import Derived.Deep.RegionHeld3
import Derived.Deep.Cut
import Derived.Lib.Hide
import Derived.Maps.Own
import Derived.Maps.OwnOps
import Derived.Test.YtegnfkbmlalkeaaGreatSvKitCo
import Derived.Test.YtegnfkbmlalkeaaGreatSvKitLg
import Derived.Test.YtegnfkbmlalkeaaGreatSvJ0
import Derived.Test.YtegnfkbmlalkeaaGreatSvJ1
import Derived.Test.YtegnfkbmlalkeaaGreatSvEntB
import Derived.Test.YtegnfkbmlalkeaaGreatSvRefE12
namespace Go.Proofs.YtegnfkbmlalkeaaGreat.kit
open Go Go.RowKit Go.Proofs.YtegnfkbmlalkeaaGreat.kit Go.Proofs.YtegnfkbmlalkeaaGreat.nums Go.Proofs.YtegnfkbmlalkeaaGreat.cf Go.Proofs.YtegnfkbmlalkeaaGreat.lg Go.Proofs.YtegnfkbmlalkeaaGreat.cr
set_option linter.unusedVariables false
theorem run_append_fresh_k {P : Program} (w : World) (base : Nat) (t ty e : TypeId) (z : Value) (sz by_ : Nat) (ht : P.underlying t = some (.slice e)) (h2 : (P.info? e).map (fun i => (i.zero, i.size, i.bytes)) = some (some z, sz, by_)) (hz : z.cells.size = sz) (hk0 : 0 < sz)
   (A : Option Addr) (n c : Nat) (xs : List Value) (hown : w.ownsRow base e sz (.slice A n c) n xs)
   (B : Nat) (X : Option Addr) (m xc : Nat) (news : List Value) (hR : RdK w B X m sz news) (h1 : ∀ u ∈ news, u.oneCell' = true) (hb : (n + m) * by_ ≤ 140737488355328) (h63 : n + m ≤ maxLen) {v : Value} {w' : World}
   (hrun : (Builtin.append_ #[t, t] ty #[.slice A n c, .slice X m xc]).run P w = .ok v w') : ∀ k, v.ownBlock = some k → (Value.slice A n c).ownBlock = some k ∨ w.heap.size ≤ k := by
 obtain ⟨i, hi, hz0, hz1, hz2⟩ := info_parts h2
 have hm : news.length = m * sz := hR.1
 intro k hk
 rcases X with _ | ad
 · have hm0 : m = 0 := by
     rcases Nat.eq_zero_or_pos m with h0 | h0
     · exact h0
     · obtain ⟨b, o, h, _⟩ := hR.2 h0
       cases h
   subst hm0
   have := run_append_src_none_k (P := P) w base t ty e i sz ht hi _ n xs hown xc
   rw [this] at hrun
   injection hrun with e1 e2
   subst e1
   exact .inl hk
 · have hcells : ∀ j u, news[j]? = some u → w.cell? (ad.add j) = some u := by
     intro j u hu
     have hp : 0 < news.length := by have := (List.getElem?_eq_some_iff.1 hu).1; omega
     have hm1 : 0 < m := by
       rcases Nat.eq_zero_or_pos m with h0 | h0
       · rw [h0, Nat.zero_mul] at hm; omega
       · exact h0
     obtain ⟨b, o, h, _, hc⟩ := hR.2 hm1
     injection h with h
     subst h
     rw [Addr.add_lit]
     exact hc j u hu
   rcases hown.2 with ⟨hv, hn0⟩ | ⟨g, cap, cur, hv, hbg, hg, hnc, hcm, hcs, htake⟩
   · obtain ⟨v2, w2, hrun2, h3, _, _⟩ := run_append_own (P := P) w w.heap.size t ty e i z sz by_ ht hi hz0 hz1 hz2 hz hk0 _ n xs ⟨hown.1, .inl ⟨hv, hn0⟩⟩ ad m xc news hm hcells h1 h63 hb (Nat.le_refl _)
     rw [hrun] at hrun2
     injection hrun2 with e1 e2
     subst e1
     exact .inr (World.ownsRow.lt h3 k hk).1
   · simp only [Value.slice.injEq] at hv
     obtain ⟨rfl, -, rfl⟩ := hv
     by_cases hroom : n + m ≤ c
     · left
       have := run_append_room (P := P) w t ty e i ht hi g n c cur hg ad m xc news (by rw [hz1]; exact hm) hcells h1 hroom (by rw [hz1, hcs, hm, ← Nat.add_mul]; exact Nat.mul_le_mul_right _ hroom)
       rw [hrun] at this
       injection this with e1 e2
       subst e1
       exact hk
     · right
       have holds : ∀ j u, xs[j]? = some u → w.cell? ((⟨g, 0, none⟩ : Addr).add j) = some u := fun j u hu => by
         have hj : j < n * sz := by rw [← hown.1]; exact (List.getElem?_eq_some_iff.1 hu).1
         rw [Addr.add_lit, Nat.zero_add, World.ownsRow.cellAt hown j hj]
         exact hu
       obtain ⟨v2, w2, hrun2, h3, _⟩ := run_append_arg_grows (P := P) w t ty e i z sz by_ ht hi hz0 hz1 hz2 hz hk0 ⟨g, 0, none⟩ n c xs hown.1 holds ad m xc news hm hcells (by omega) h63 hb
       rw [hrun] at hrun2
       injection hrun2 with e1 e2
       subst e1
       exact (World.ownsRow.lt h3 k hk).1
structure Rw where
 row : Option Nat
 lo : Nat
structure Ch (g : Nat) (o : Rw) (w w' : World) : Prop where
 os : w'.os = w.os
 tape : w'.tape = w.tape
 output : w'.output = w.output
 size : w.heap.size ≤ w'.heap.size
 block : ∀ k, k < w.heap.size → k ≠ g → o.row ≠ some k → w'.heap[k]? = w.heap[k]?
def Nx (o o' : Rw) (w : World) : Prop := (∀ k, o'.row = some k → o.row = some k ∨ w.heap.size ≤ k) ∧ o'.lo = o.lo
def Ap (g : Nat) (o : Rw) (q : Nat) : Prop := q ≠ g ∧ o.row ≠ some q
section
variable {w w' w'' w0 : World} {g q B : Nat} {o o' o'' : Rw}
theorem Ch.refl (g : Nat) (o : Rw) (w : World) : Ch g o w w := ⟨rfl, rfl, rfl, Nat.le_refl _, fun _ _ _ _ => rfl⟩
theorem Nx.refl (o : Rw) (w : World) : Nx o o w := ⟨fun _ h => .inl h, rfl⟩
theorem Nx.trans (h : Nx o o' w) (hs : w.heap.size ≤ w'.heap.size) (h' : Nx o' o'' w') : Nx o o'' w := ⟨fun k hk => by
 rcases h'.1 k hk with h1 | h1
 · exact h.1 k h1
 · exact .inr (Nat.le_trans hs h1), h'.2.trans h.2⟩
theorem Ap.next (h : Ap g o q) (hn : Nx o o' w) (hq : q < w.heap.size) : Ap g o' q := ⟨h.1, fun e => by
 rcases hn.1 q e with h1 | h1
 · exact h.2 h1
 · omega⟩
theorem Ch.trans (h : Ch g o w w') (hn : Nx o o' w) (h' : Ch g o' w' w'') : Ch g o w w'' :=
 ⟨h'.os.trans h.os, h'.tape.trans h.tape, h'.output.trans h.output, Nat.le_trans h.size h'.size, fun k hk h1 h2 => by
   have a : Ap g o' k := Ap.next ⟨h1, h2⟩ hn hk
   rw [h'.block k (Nat.lt_of_lt_of_le hk h.size) a.1 a.2, h.block k hk h1 h2]⟩
end
def RdX (w : World) (g : Nat) (o : Rw) (A : Option Addr) (n : Nat) (es : List EnL) : Prop := RdE w w.heap.size A n es ∧ ∀ b off, 0 < n → A = some ⟨b, off, none⟩ → Ap g o b ∧ o.lo ≤ b
section
variable {w w' : World} {g n : Nat} {o o' : Rw} {A : Option Addr} {es : List EnL}
theorem RdE.same {B : Nat} (h : RdE w B A n es) (hb : ∀ b off, 0 < n → A = some ⟨b, off, none⟩ → w'.heap[b]? = w.heap[b]?) : RdE w' B A n es := ⟨h.1, fun hn => by
 obtain ⟨b, off, e, hlt, hc⟩ := h.2 hn
 exact ⟨b, off, e, hlt, fun j x hx => (hc j x hx).same (hb b off hn e)⟩⟩
theorem RdE.block {B : Nat} (h : RdE w B A n es) {b off : Nat} (hn : 0 < n) (e : A = some ⟨b, off, none⟩) : b < B := by
 obtain ⟨b', off', e', hlt, _⟩ := h.2 hn
 rw [e] at e'
 have := Option.some.inj e'
 simp only [Addr.mk.injEq] at this
 omega
theorem RdX.below (h : RdX w g o A n es) (hb : Below w.heap.size w w') : RdX w' g o A n es := ⟨h.1.on hb hb.size, h.2⟩
theorem RdX.put (h : RdX w g o A n es) (hp : Put w w' g) : RdX w' g o A n es :=
 ⟨(h.1.same (fun b off h0 e => hp.other b (h.2 b off h0 e).1.1)).more (by rw [hp.size]; exact Nat.le_refl _), h.2⟩
theorem RdX.of_own {base c : Nat} (h : OwnE w base (.slice A n c) es) (hg : g < base) (ho : ∀ k, o.row = some k → k < base) (hl : o.lo ≤ g) : RdX w g o A n es :=
 ⟨h.cap.2.2.2, fun b off _ e => by
   have hb := (h.blk_lt b off e).1
   exact ⟨⟨by omega, fun e2 => by have := ho b e2; omega⟩, by omega⟩⟩
theorem RdX.far {z : Nat} (h : RdX w g o A n es) (hp : Put w w' z) (hz : z < o.lo) : RdX w' g o A n es :=
 ⟨(h.1.same (fun b off h0 e => hp.other b (by have := (h.2 b off h0 e).2; omega))).more (by rw [hp.size]; exact Nat.le_refl _), h.2⟩
theorem RdX.nil (w : World) (g : Nat) (o : Rw) (A : Option Addr) : RdX w g o A 0 [] := ⟨RdE.nil _ _ _, fun _ _ h => absurd h (by omega)⟩
end
def OwnM (w : World) (base : Nat) (v : Value) (xs : List (MsL × Value)) : Prop := w.ownsRow base 49 22 v xs.length (xs.flatMap fun x => msC x.1 x.2)
def SlM (w : World) (g : Nat) (o : Rw) (xs : List (MsL × Value)) : Prop := ∀ x ∈ xs, ∃ A n p, x.2 = .slice A n p ∧ n ≤ p ∧ RdX w g o A n x.1.es
def RunR (w : World) (g : Nat) (o : Rw) (A : Option Addr) (n p : Nat) (es : List EnL) (v : Value) (ms : List MsL) : Prop :=
 RdX w g o A n es ∧ n ≤ p ∧ o.lo ≤ g ∧ ∃ xs, OwnM w (g + 1) v xs ∧ v.ownBlock = o.row ∧ xs.map Prod.fst = ms ∧ SlM w g o xs
def RunI (w : World) (g : Nat) (c : CoL) (ms : List MsL) (o : Rw) : Prop :=
 ∃ A n p v, Blk 99 w g (rnC c (.slice A n p) v) ∧ RunR w g o A n p c.lg.es v ms
section
variable {w w' : World} {g : Nat} {c c' : CoL} {ms : List MsL} {o o' : Rw}
theorem OwnM.same {base : Nat} {v : Value} {xs : List (MsL × Value)} (h : OwnM w base v xs) (hb : ∀ k, v.ownBlock = some k → k < w.heap.size → w'.heap[k]? = w.heap[k]?) : OwnM w' base v xs := by
 refine ⟨h.1, ?_⟩
 rcases h.2 with hn | ⟨q, cap, cur, rfl, hbq, hq, r⟩
 · exact .inl hn
 · exact .inr ⟨q, cap, cur, rfl, hbq, (hb q rfl (lt_of_block hq)).trans hq, r⟩
theorem OwnM.lt {base : Nat} {v : Value} {xs : List (MsL × Value)} (h : OwnM w base v xs) : ∀ k, v.ownBlock = some k → base ≤ k ∧ k < w.heap.size := fun k hk => World.ownsRow.lt h k hk
theorem SlM.below {xs : List (MsL × Value)} (h : SlM w g o xs) (hb : Below w.heap.size w w') : SlM w' g o xs := fun x hx => by
 obtain ⟨A, n, p, e, h1, h2⟩ := h x hx
 exact ⟨A, n, p, e, h1, h2.below hb⟩
theorem SlM.put {xs : List (MsL × Value)} (h : SlM w g o xs) (hp : Put w w' g) : SlM w' g o xs := fun x hx => by
 obtain ⟨A, n, p, e, h1, h2⟩ := h x hx
 exact ⟨A, n, p, e, h1, h2.put hp⟩
theorem RunR.below {A : Option Addr} {n p : Nat} {es : List EnL} {v : Value} (h : RunR w g o A n p es v ms) (hb : Below w.heap.size w w') : RunR w' g o A n p es v ms := by
 obtain ⟨h2, h3, hl, xs, h4, h5, h6, h7⟩ := h
 exact ⟨h2.below hb, h3, hl, xs, h4.same (fun k _ hk => hb.block k hk), h5, h6, h7.below hb⟩
theorem RunR.put {A : Option Addr} {n p : Nat} {es : List EnL} {v : Value} (h : RunR w g o A n p es v ms) (hp : Put w w' g) : RunR w' g o A n p es v ms := by
 obtain ⟨h2, h3, hl, xs, h4, h5, h6, h7⟩ := h
 exact ⟨h2.put hp, h3, hl, xs, h4.same (fun k hk _ => hp.other k (by have := (h4.lt k hk).1; omega)), h5, h6, h7.put hp⟩
theorem RunR.cap {A : Option Addr} {n p : Nat} {es : List EnL} {v : Value} (h : RunR w g o A n p es v ms) : n ≤ p := h.2.1
theorem RunR.row {A : Option Addr} {n p : Nat} {es : List EnL} {v : Value} (h : RunR w g o A n p es v ms) : ∀ k, o.row = some k → g < k ∧ k < w.heap.size := by
 obtain ⟨_, _, _, xs, h4, h5, _⟩ := h
 intro k hk
 have := h4.lt k (h5.trans hk)
 exact ⟨by omega, this.2⟩
theorem RunR.lo {A : Option Addr} {n p : Nat} {es : List EnL} {v : Value} (h : RunR w g o A n p es v ms) : o.lo ≤ g := h.2.2.1
theorem RunI.lo (h : RunI w g c ms o) : o.lo ≤ g := by
 obtain ⟨A, n, p, v, _, h2⟩ := h
 exact h2.lo
theorem RunI.below (h : RunI w g c ms o) (hb : Below w.heap.size w w') : RunI w' g c ms o := by
 obtain ⟨A, n, p, v, h1, h2⟩ := h
 exact ⟨A, n, p, v, h1.below hb h1.lt, h2.below hb⟩
theorem RunI.lt (h : RunI w g c ms o) : g < w.heap.size := by
 obtain ⟨A, n, p, v, h1, _⟩ := h
 exact h1.lt
theorem RunI.row (h : RunI w g c ms o) : ∀ k, o.row = some k → g < k ∧ k < w.heap.size := by
 obtain ⟨A, n, p, v, _, h2⟩ := h
 exact h2.row
theorem Ap.below {q : Nat} (hq : q < g) (h : ∀ k, o.row = some k → g < k) : Ap g o q := ⟨by omega, fun e => by have := h q e; omega⟩
theorem RunR.far {A : Option Addr} {n p z : Nat} {es : List EnL} {v : Value} (h : RunR w g o A n p es v ms) (hp : Put w w' z) (hz : z < o.lo) : RunR w' g o A n p es v ms := by
 obtain ⟨h2, h3, hl, xs, h4, h5, h6, h7⟩ := h
 refine ⟨h2.far hp hz, h3, hl, xs, h4.same (fun k hk _ => hp.other k (by have := (h4.lt k hk).1; omega)), h5, h6, fun x hx => ?_⟩
 obtain ⟨A, n, p, e, h1, h2⟩ := h7 x hx
 exact ⟨A, n, p, e, h1, h2.far hp hz⟩
end
end Go.Proofs.YtegnfkbmlalkeaaGreat.kit
namespace Go.Proofs.YtegnfkbmlalkeaaGreat.kit
open Go Go.RowKit Go.Proofs.YtegnfkbmlalkeaaGreat.kit Go.Proofs.YtegnfkbmlalkeaaGreat.nums Go.Proofs.YtegnfkbmlalkeaaGreat.cf Go.Proofs.YtegnfkbmlalkeaaGreat.lg Go.Proofs.YtegnfkbmlalkeaaGreat.cr
set_option linter.unusedVariables false
theorem OwnM.form {w : World} {base : Nat} {v : Value} {xs : List (MsL × Value)} (h : OwnM w base v xs) : ∃ A c, v = .slice A xs.length c := by
 rcases h.2 with ⟨hv, hn⟩ | ⟨q, cap, cur, rfl, _⟩
 · exact ⟨none, 0, by rw [hv, hn]⟩
 · exact ⟨_, cap, rfl⟩
theorem OwnM.nil (w : World) (base : Nat) : OwnM w base (.slice none 0 0) [] := World.ownsRow_nil w base _ 22
theorem run_app_M (w : World) (base : Nat) (ty : TypeId) (A : Option Addr) (n c : Nat) (xs : List (MsL × Value)) (hn : xs.length = n) (hown : OwnM w base (.slice A n c) xs) (g : Nat) (x : MsL) (Am : Option Addr) (nm pm : Nat) (hx : Blk 49 w g (msC x (.slice Am nm pm))) (hb : n ≤ 100000) (hbase : base ≤ w.heap.size) :
   ∃ v w', (Builtin.append_ #[38, 38] ty #[.slice A n c, .slice (some ⟨g, 0, none⟩) 1 1]).run Tryz.prog w = .ok v w' ∧ (∃ A' c', v = .slice A' (n + 1) c') ∧ OwnM w' base v (xs ++ [(x, .slice Am nm pm)]) ∧ w.grownBy w' (Value.ownBlock (.slice A n c)) ∧ (∀ k, v.ownBlock = some k → (Value.slice A n c).ownBlock = some k ∨ w.heap.size ≤ k) ∧ Below base w w' := by
 subst hn
 have hR : RdK w w.heap.size (some ⟨g, 0, none⟩) 1 22 (msC x (.slice Am nm pm)) := ⟨rfl, fun _ => ⟨g, 0, rfl, hx.lt, fun j u hu => by rw [Nat.zero_add, hx.cell]; exact hu⟩⟩
 have h1 : ∀ u ∈ msC x (.slice Am nm pm), u.oneCell' = true := fun u hu => List.all_eq_true.1 (ms_one x) u hu
 obtain ⟨A', c', w', hrun, h3, h4, h5⟩ := run_append_k (P := Tryz.prog) w base 38 ty 49 _ 22 168 Tryz.underlying38 infoM rfl (by omega) A xs.length c _ hown w.heap.size (some ⟨g, 0, none⟩) 1 1 _ hR h1 (by omega) (by unfold maxLen; omega) hbase
 have h6 := run_append_fresh_k (P := Tryz.prog) w base 38 ty 49 _ 22 168 Tryz.underlying38 infoM rfl (by omega) A xs.length c _ hown w.heap.size (some ⟨g, 0, none⟩) 1 1 _ hR h1 (by omega) (by unfold maxLen; omega) hrun
 refine ⟨_, w', hrun, ⟨A', c', rfl⟩, ?_, h5, h6, h4⟩
 unfold OwnM
 rw [List.length_append, List.flatMap_append, List.flatMap_cons, List.flatMap_nil, List.append_nil]
 exact h3
theorem run_bsM (x : MsL) (s : Value) (w : World) : (Instr.buildSlice 38 1 #[(0, msV x s)]).run Tryz.prog w = .ok (.slice (some ⟨w.heap.size, 0, none⟩) 1 1) (w.alloc (.cells (msC x s).toArray 49)) := by kernel_rfl
section
variable {P : Program} {w : World} {ops : Array Oper} {rest : List Oper} {o : Oper} {a : Act} {K : Act → World → Prop} {Q : Exit → Act → World → Prop} {E : Prop}
theorem step_bsR (hgd : o.guard = none) (x : Operand) (t : TypeId) (ho : o.op = .buildSlice t 1 #[(0, x)]) (X : Value) (hx : a.eval x = X) (R : Value → World → Prop)
   (hrun : ∃ v w', (Instr.buildSlice t 1 #[(0, X)]).run P w = .ok v w' ∧ R v w') (hK : ∀ v w', R v w' → K (a.put o.dst v) w') :
   if Region.wanted o (yielded ops a.tmps) = true then Oper.wp P o a w K Q else E := by
 have hw : Region.wanted o (yielded ops a.tmps) = true := by simp [Region.wanted, hgd]
 rw [if_pos hw]
 obtain ⟨v, w', hr, hR⟩ := hrun
 subst hx
 unfold Oper.wp execOp
 simp only [ho, List.map_toArray, List.map_cons, List.map_nil, Sem.run_bind, Sem.run_pure, hr, Result.andThen_ok]
 exact hK _ _ hR
end
theorem run_bsM2 (x : MsL) (s : Value) (w : World) : ∃ v w', (Instr.buildSlice 38 1 #[(0, msV x s)]).run Tryz.prog w = .ok v w' ∧ v = .slice (some ⟨w.heap.size, 0, none⟩) 1 1 ∧ Blk 49 w' w.heap.size (msC x s) ∧ Below w.heap.size w w' :=
 ⟨_, _, run_bsM x s w, rfl, heap_alloc_new w _, (Below.refl _ _).alloc (Nat.le_refl _) _⟩
end Go.Proofs.YtegnfkbmlalkeaaGreat.kit
namespace Go.Proofs.YtegnfkbmlalkeaaGreat.kit
open Go Go.RowKit Go.Proofs.YtegnfkbmlalkeaaGreat.kit Go.Proofs.YtegnfkbmlalkeaaGreat.nums Go.Proofs.YtegnfkbmlalkeaaGreat.cf Go.Proofs.YtegnfkbmlalkeaaGreat.lg Go.Proofs.YtegnfkbmlalkeaaGreat.cr
set_option linter.unusedVariables false
theorem j_one (j : JtL) : (jC j).all (·.oneCell') = true := rfl
def zJc : List Value := [.int .u16 0, .int .u16 0, .int .u16 0, .int .i64 0, .int .i64 0, .int .u16 0, .int .u16 0, .int .u16 0, .int .i64 0, .int .i64 0, .bool false]
theorem zeroJv : (Tryz.prog.info? 27).map (·.zero) = some (some (.agg zJc.toArray)) := by kernel_rfl
section
variable {w : World} {ops : Array Oper} {rest : List Oper} {o : Oper} {a : Act} {Q : Exit → Act → World → Prop} {g : Nat} {E : TypeId} {c : CoL} {m : MsL} {x : EnL} {L : LgL} {s v : Value} {j : JtL}
theorem al_J (hgd : o.guard = none) (ho : o.op = .alloc 27)
   (h : ∀ w', Blk 27 w' w.heap.size zJc → Below w.heap.size w w' → Hid (w'.heap.size = w.heap.size + 1) → wpList Tryz.prog ops Q rest (a.put o.dst (.pointer (some ⟨w.heap.size, 0, none⟩))) w') : wpList Tryz.prog ops Q (o :: rest) a w :=
 wpList_al hgd _ ho _ zeroJv zJc rfl h
theorem box_J (hgd : o.guard = none) (p : Operand) (ho : o.op = .box 27 p) (j : JtL) (hx : a.eval p = jV j)
   (h : ∀ w', Blk 27 w' w.heap.size (jC j) → Below w.heap.size w w' → Hid (w'.heap.size = w.heap.size + 1) → wpList Tryz.prog ops Q rest (a.put o.dst (.pointer (some ⟨w.heap.size, 0, none⟩))) w') : wpList Tryz.prog ops Q (o :: rest) a w :=
 wpList_box hgd _ p ho _ hx h
theorem st_Jv (hgd : o.guard = none) (q v : Operand) (ho : o.op = .store 27 q v) (j : JtL) (hp : a.eval q = .pointer (some ⟨g, 0, none⟩)) (hv : a.eval v = jV j) (old : List Value) (hK : Blk E w g old) (hl : old.length = 11)
   (h : ∀ w', Blk E w' g (jC j) → Put w w' g → wpList Tryz.prog ops Q rest (a.put o.dst undef) w') : wpList Tryz.prog ops Q (o :: rest) a w :=
 wpList_st hgd _ q v ho g _ old E hp hv hK sizeJv hl (j_one j) h
theorem lo_J (p : Operand) (ho : o.op = .load 27 p) (hw : Region.wanted o (yielded ops a.tmps) = true) (hp : a.eval p = .pointer (some ⟨g, 0, none⟩)) (hK : Blk E w g (jC j))
   (h : wpList Tryz.prog ops Q rest (a.put o.dst (jV j)) w) : wpList Tryz.prog ops Q (o :: rest) a w :=
 wpList_ldw hw _ p ho g (jC j) E hp hK (aggJ _) (sizeJ _) h
theorem lo_Jj {p : Operand} (hK : Blk E w g (jC j)) (h : wpList Tryz.prog ops Q rest (a.put o.dst (jV j)) w) (ho : o.op = .load 27 p := by rfl) (hw : Region.wanted o (yielded ops a.tmps) = true := by rfl) (hp : a.eval p = .pointer (some ⟨g, 0, none⟩) := by rfl) : wpList Tryz.prog ops Q (o :: rest) a w := lo_J p ho hw hp hK h
theorem rld_J {p : Operand} (ho : o.op = .load 27 p) (hp : a.eval p = .pointer (some ⟨g, 0, none⟩)) (hK : Blk E w g (jC j)) : (execOp a.eval o).run Tryz.prog w = .ok (.value (jV j)) w := run_ldv ho hp hK (aggJ _) (sizeJ _)
theorem lo_cL (p : Operand) (ho : o.op = .load 30 p) (hw : Region.wanted o (yielded ops a.tmps) = true) (hp : a.eval p = .pointer (some ⟨g, 8, none⟩)) (hK : Blk E w g (crC c s))
   (h : wpList Tryz.prog ops Q rest (a.put o.dst (lgV c.lg s)) w) : wpList Tryz.prog ops Q (o :: rest) a w := wpList_ldAt p ho hw hp (at_cL hK) (aggL _) (sizeL _) h
theorem lo_cLj {p : Operand} (hK : Blk E w g (crC c s)) (h : wpList Tryz.prog ops Q rest (a.put o.dst (lgV c.lg s)) w) (ho : o.op = .load 30 p := by rfl) (hw : Region.wanted o (yielded ops a.tmps) = true := by rfl) (hp : a.eval p = .pointer (some ⟨g, 8, none⟩) := by rfl) : wpList Tryz.prog ops Q (o :: rest) a w := lo_cL p ho hw hp hK h
theorem lo_cJ (p : Operand) (ho : o.op = .load 27 p) (hw : Region.wanted o (yielded ops a.tmps) = true) (hp : a.eval p = .pointer (some ⟨g, 10, none⟩)) (hK : Blk E w g (crC c s))
   (h : wpList Tryz.prog ops Q rest (a.put o.dst (jV c.lg.j)) w) : wpList Tryz.prog ops Q (o :: rest) a w := wpList_ldAt p ho hw hp (at_cJ hK) (aggJ _) (sizeJ _) h
theorem lo_cJj {p : Operand} (hK : Blk E w g (crC c s)) (h : wpList Tryz.prog ops Q rest (a.put o.dst (jV c.lg.j)) w) (ho : o.op = .load 27 p := by rfl) (hw : Region.wanted o (yielded ops a.tmps) = true := by rfl) (hp : a.eval p = .pointer (some ⟨g, 10, none⟩) := by rfl) : wpList Tryz.prog ops Q (o :: rest) a w := lo_cJ p ho hw hp hK h
theorem lo_mJ (p : Operand) (ho : o.op = .load 27 p) (hw : Region.wanted o (yielded ops a.tmps) = true) (hp : a.eval p = .pointer (some ⟨g, 11, none⟩)) (hK : Blk E w g (msC m s))
   (h : wpList Tryz.prog ops Q rest (a.put o.dst (jV m.j)) w) : wpList Tryz.prog ops Q (o :: rest) a w := wpList_ldAt p ho hw hp (at_mJ hK) (aggJ _) (sizeJ _) h
theorem lo_mJj {p : Operand} (hK : Blk E w g (msC m s)) (h : wpList Tryz.prog ops Q rest (a.put o.dst (jV m.j)) w) (ho : o.op = .load 27 p := by rfl) (hw : Region.wanted o (yielded ops a.tmps) = true := by rfl) (hp : a.eval p = .pointer (some ⟨g, 11, none⟩) := by rfl) : wpList Tryz.prog ops Q (o :: rest) a w := lo_mJ p ho hw hp hK h
theorem lo_lJ (p : Operand) (ho : o.op = .load 27 p) (hw : Region.wanted o (yielded ops a.tmps) = true) (hp : a.eval p = .pointer (some ⟨g, 2, none⟩)) (hK : Blk E w g (lgC L s))
   (h : wpList Tryz.prog ops Q rest (a.put o.dst (jV L.j)) w) : wpList Tryz.prog ops Q (o :: rest) a w := wpList_ldAt p ho hw hp (at_jL hK) (aggJ _) (sizeJ _) h
theorem lo_lJj {p : Operand} (hK : Blk E w g (lgC L s)) (h : wpList Tryz.prog ops Q rest (a.put o.dst (jV L.j)) w) (ho : o.op = .load 27 p := by rfl) (hw : Region.wanted o (yielded ops a.tmps) = true := by rfl) (hp : a.eval p = .pointer (some ⟨g, 2, none⟩) := by rfl) : wpList Tryz.prog ops Q (o :: rest) a w := lo_lJ p ho hw hp hK h
theorem rld_cL {p : Operand} (ho : o.op = .load 30 p) (hp : a.eval p = .pointer (some ⟨g, 8, none⟩)) (hK : Blk E w g (crC c s)) : (execOp a.eval o).run Tryz.prog w = .ok (.value (lgV c.lg s)) w := run_ldAt ho hp (at_cL hK) (aggL _) (sizeL _)
theorem rld_cJ {p : Operand} (ho : o.op = .load 27 p) (hp : a.eval p = .pointer (some ⟨g, 10, none⟩)) (hK : Blk E w g (crC c s)) : (execOp a.eval o).run Tryz.prog w = .ok (.value (jV c.lg.j)) w := run_ldAt ho hp (at_cJ hK) (aggJ _) (sizeJ _)
end
theorem ldJv {P : Program} {E : TypeId} {w : World} {g : Nat} {j : JtL} (h : Blk E w g (jC j)) : (loadCellsFrom ⟨g, 0, none⟩ 0 11 #[]).run P w = .ok (jC j).toArray w :=
 run_loadCells_list (P := P) w ⟨g, 0, none⟩ (jC j) (fun i v hv => by rw [Addr.add_lit, Nat.zero_add, h.cell]; exact hv)
theorem ldCv {P : Program} {E : TypeId} {w : World} {g : Nat} {c : CoL} {s : Value} (h : Blk E w g (crC c s)) : (loadCellsFrom ⟨g, 0, none⟩ 0 45 #[]).run P w = .ok (crC c s).toArray w :=
 run_loadCells_list (P := P) w ⟨g, 0, none⟩ (crC c s) (fun i v hv => by rw [Addr.add_lit, Nat.zero_add, h.cell]; exact hv)
theorem cr_nx {w : World} {g : Nat} {E : TypeId} {c : CoL} {s : Value} (h : Blk E w g (crC c s)) {k : Nat} (hk : k < 10) : w.cell? ⟨g, 25 + k, none⟩ = some (.int .i64 (c.nx k)) := at_cN h k _ (a10_get c.nx hk)
theorem cr_mt {w : World} {g : Nat} {E : TypeId} {c : CoL} {s : Value} (h : Blk E w g (crC c s)) {k : Nat} (hk : k < 10) : w.cell? ⟨g, 35 + k, none⟩ = some (.int .i64 (c.mt k)) := at_cT h k _ (a10_get c.mt hk)
end Go.Proofs.YtegnfkbmlalkeaaGreat.kit
namespace Go.Proofs.YtegnfkbmlalkeaaGreat.kit
open Go Go.RowKit Go.Proofs.YtegnfkbmlalkeaaGreat.kit Go.Proofs.YtegnfkbmlalkeaaGreat.nums Go.Proofs.YtegnfkbmlalkeaaGreat.cf Go.Proofs.YtegnfkbmlalkeaaGreat.lg Go.Proofs.YtegnfkbmlalkeaaGreat.cr
set_option linter.unusedVariables false
def NotIn (g : Nat) (A : Option Addr) (n : Nat) : Prop := ∀ b off, 0 < n → A = some ⟨b, off, none⟩ → b ≠ g
def OldNew (s : Nat) (A : Option Addr) (n : Nat) (A' : Option Addr) (n' : Nat) : Prop := ∀ b off, 0 < n' → A' = some ⟨b, off, none⟩ → s ≤ b ∨ (0 < n ∧ ∃ o, A = some ⟨b, o, none⟩)
section
variable {w w' : World} {g B s s2 base n n' n1 n2 c : Nat} {A A' A1 A2 : Option Addr} {es : List EnL}
theorem NotIn.of_rd (h : RdE w B A n es) (hb : B ≤ g) : NotIn g A n := fun b off hn e => by have := h.block hn e; omega
theorem NotIn.of_own (h : OwnE w base (.slice A n c) es) (hg : g < base) : NotIn g A n := fun b off _ e => by have := (h.blk_lt b off e).1; omega
theorem NotIn.next (h : NotIn g A n) (ho : OldNew s A n A' n') (hg : g < s) : NotIn g A' n' := fun b off hn e => by
 rcases ho b off hn e with h1 | ⟨h1, o, h2⟩
 · omega
 · exact h b o h1 h2
theorem NotIn.nil (g : Nat) (A : Option Addr) : NotIn g A 0 := fun _ _ h => absurd h (by omega)
theorem OldNew.refl (s : Nat) (A : Option Addr) (n : Nat) : OldNew s A n A n := fun b off hn e => .inr ⟨hn, off, e⟩
theorem OldNew.own (h : OwnE w base (.slice A' n' c) es) (hs : s ≤ base) : OldNew s A n A' n' := fun b off _ e => .inl (Nat.le_trans hs (h.blk_lt b off e).1)
theorem OldNew.nil (s : Nat) (A : Option Addr) (n : Nat) (A' : Option Addr) : OldNew s A n A' 0 := fun _ _ h => absurd h (by omega)
theorem OldNew.trans (h1 : OldNew s A n A1 n1) (h2 : OldNew s2 A1 n1 A2 n2) (hs : s ≤ s2) : OldNew s A n A2 n2 := fun b off hn e => by
 rcases h2 b off hn e with h3 | ⟨h3, o, h4⟩
 · exact .inl (Nat.le_trans hs h3)
 · exact h1 b o h3 h4
theorem RdE.putN (h : RdE w B A n es) (hp : Put w w' g) (hn : NotIn g A n) : RdE w' B A n es := h.same (fun b off h0 e => hp.other b (hn b off h0 e))
theorem RdE.putS (h : RdE w w.heap.size A n es) (hp : Put w w' g) (hn : NotIn g A n) : RdE w' w'.heap.size A n es := by rw [hp.size]; exact h.putN hp hn
end
def OutL (w : World) (B : Nat) (v : Value) (ms : List MsL) : Prop := ∃ xs : List (MsL × Value), OwnM w B v xs ∧ xs.map Prod.fst = ms ∧ ∀ x ∈ xs, ∃ A n p, x.2 = .slice A n p ∧ OwnE w B (.slice A n p) x.1.es
section
variable {w w' : World} {g B B' n c : Nat} {v : Value} {ms : List MsL}
theorem OutL.nil (w : World) (B : Nat) : OutL w B (.slice none 0 0) [] := ⟨[], OwnM.nil w B, rfl, fun x hx => by cases hx⟩
theorem OutL.below (h : OutL w B v ms) (hb : Below w.heap.size w w') : OutL w' B v ms := by
 obtain ⟨xs, h1, h2, h3⟩ := h
 exact ⟨xs, h1.same (fun k _ hk => hb.block k hk), h2, fun x hx => by
   obtain ⟨A, n, p, e, h4⟩ := h3 x hx
   exact ⟨A, n, p, e, h4.below hb⟩⟩
theorem OutL.put (h : OutL w B v ms) (hp : Put w w' g) (hg : g < B) : OutL w' B v ms := by
 obtain ⟨xs, h1, h2, h3⟩ := h
 exact ⟨xs, h1.same (fun k hk _ => hp.other k (by have := (h1.lt k hk).1; omega)), h2, fun x hx => by
   obtain ⟨A, n, p, e, h4⟩ := h3 x hx
   exact ⟨A, n, p, e, h4.put hp hg⟩⟩
theorem OutL.more (h : OutL w B v ms) (hB : B' ≤ B) : OutL w B' v ms := by
 obtain ⟨xs, h1, h2, h3⟩ := h
 refine ⟨xs, ?_, h2, fun x hx => ?_⟩
 · refine ⟨h1.1, ?_⟩
   rcases h1.2 with hn | ⟨q, cap, cur, rfl, hbq, r⟩
   · exact .inl hn
   · exact .inr ⟨q, cap, cur, rfl, Nat.le_trans hB hbq, r⟩
 · obtain ⟨A, n, p, e, h4⟩ := h3 x hx
   exact ⟨A, n, p, e, h4.more hB⟩
theorem OutL.form (h : OutL w B v ms) : ∃ A c, v = .slice A ms.length c := by
 obtain ⟨xs, h1, h2, _⟩ := h
 obtain ⟨A, c, e⟩ := h1.form
 exact ⟨A, c, by rw [e, ← h2, List.length_map]⟩
theorem own_types {base base' : Nat} {u : Value} {xs : List (MsL × Value)} {es : List EnL} (h1 : OwnM w base v xs) (h2 : OwnE w base' u es) : ∀ k, v.ownBlock = some k → u.ownBlock ≠ some k := by
 intro k hk hk2
 rcases h1.2 with ⟨hv, _⟩ | ⟨q, cap, cur, rfl, _, hq, _⟩
 · rw [hv] at hk; cases hk
 · rcases h2.2 with ⟨hv, _⟩ | ⟨q', cap', cur', rfl, _, hq', _⟩
   · rw [hv] at hk2; cases hk2
   · have e1 : q = k := Option.some.inj hk
     have e2 : q' = k := Option.some.inj hk2
     subst e1; subst e2
     rw [hq] at hq'
     have := Option.some.inj hq'
     injection this with _ h _
     exact absurd h (by decide)
theorem own_of_keep {base : Nat} {u : Value} {es : List EnL} (h : OwnE w base u es) (hk : ∀ k, u.ownBlock = some k → w'.heap[k]? = w.heap[k]?) : OwnE w' base u es := by
 refine ⟨h.1, ?_⟩
 rcases h.2 with hn | ⟨q, cap, cur, rfl, hbq, hq, r⟩
 · exact .inl hn
 · exact .inr ⟨q, cap, cur, rfl, hbq, (hk q rfl).trans hq, r⟩
theorem OutL.app (w : World) (B : Nat) (ty : TypeId) (A : Option Addr) (n c : Nat) (ms : List MsL) (hn : ms.length = n) (h : OutL w B (.slice A n c) ms) (g : Nat) (x : MsL) (Am : Option Addr) (nm pm : Nat) (hx : Blk 49 w g (msC x (.slice Am nm pm))) (hE : OwnE w B (.slice Am nm pm) x.es) (hb : n ≤ 100000) (hbase : B ≤ w.heap.size) :
   ∃ v w', (Builtin.append_ #[38, 38] ty #[.slice A n c, .slice (some ⟨g, 0, none⟩) 1 1]).run Tryz.prog w = .ok v w' ∧ (∃ A' c', v = .slice A' (n + 1) c') ∧ OutL w' B v (ms ++ [x]) ∧ Below B w w' ∧ w.grownBy w' (Value.ownBlock (.slice A n c)) ∧ (∀ k, v.ownBlock = some k → (Value.slice A n c).ownBlock = some k ∨ w.heap.size ≤ k) := by
 obtain ⟨xs, h1, h2, h3⟩ := h
 have hl : xs.length = n := by rw [← hn, ← h2, List.length_map]
 obtain ⟨v, w', hr, hs, ho, hg, hf, hB⟩ := run_app_M w B ty A n c xs hl h1 g x Am nm pm hx hb hbase
 have hkeep : ∀ {u : Value} {es : List EnL}, OwnE w B u es → OwnE w' B u es := fun {u es} hu => own_of_keep hu (fun k hk => by
   have hlt := (World.ownsRow.lt hu k hk).2
   exact hg.block k hlt (fun e => own_types h1 hu k e.symm hk))
 refine ⟨v, w', hr, hs, ⟨xs ++ [(x, .slice Am nm pm)], ho, by rw [List.map_append, h2]; rfl, fun y hy => ?_⟩, hB, hg, hf⟩
 rcases List.mem_append.1 hy with hy | hy
 · obtain ⟨A5, n5, p5, e5, h5⟩ := h3 y hy
   exact ⟨A5, n5, p5, e5, hkeep h5⟩
 · rw [List.mem_singleton] at hy
   subst hy
   exact ⟨Am, nm, pm, rfl, hkeep hE⟩
theorem OutL.one {x : MsL} {A : Option Addr} {p : Nat} (hg : Blk 49 w g (msC x (.slice A n p))) (hE : OwnE w B (.slice A n p) x.es) (hb : B ≤ g) : OutL w B (.slice (some ⟨g, 0, none⟩) 1 1) [x] :=
 ⟨[(x, .slice A n p)], ⟨rfl, .inr ⟨g, 1, (msC x (.slice A n p)).toArray, rfl, hb, hg, Nat.le_refl _, by unfold maxLen; omega, rfl, rfl⟩⟩, rfl, fun y hy => by
   rw [List.mem_singleton] at hy
   subst hy
   exact ⟨A, n, p, rfl, hE⟩⟩
end
section
variable {P : Program} {w : World} {ops : Array Oper} {rest : List Oper} {o : Oper} {a : Act} {Q : Exit → Act → World → Prop}
theorem wpList_appR (hgd : o.guard = none) (s x : Operand) (t : TypeId) (ho : o.op = .call { callee := .builtin .append, args := #[s, x], argTypes := #[t, t] }) (V X : Value) (hs : a.eval s = V) (hx : a.eval x = X) (R : Value → World → Prop)
   (hrun : ∃ v w', (Builtin.append_ #[t, t] o.type #[V, X]).run P w = .ok v w' ∧ R v w') (h : ∀ v w', R v w' → wpList P ops Q rest (a.put o.dst v) w') : wpList P ops Q (o :: rest) a w := by
 refine wpList_plain hgd fun K hK => ?_
 obtain ⟨v, w', hr, hR⟩ := hrun
 subst hs hx
 unfold Oper.wp execOp
 simp only [ho, resolve, invoke, builtin, Sem.run_bind, Sem.run_pure, Result.andThen_ok, List.map_toArray, List.map_cons, List.map_nil, hr]
 exact hK _ _ (h _ _ hR)
theorem wpList_bsR (hgd : o.guard = none) (x : Operand) (t : TypeId) (ho : o.op = .buildSlice t 1 #[(0, x)]) (X : Value) (hx : a.eval x = X) (R : Value → World → Prop)
   (hrun : ∃ v w', (Instr.buildSlice t 1 #[(0, X)]).run P w = .ok v w' ∧ R v w') (h : ∀ v w', R v w' → wpList P ops Q rest (a.put o.dst v) w') : wpList P ops Q (o :: rest) a w := by
 refine wpList_plain hgd fun K hK => ?_
 obtain ⟨v, w', hr, hR⟩ := hrun
 subst hx
 unfold Oper.wp execOp
 simp only [ho, List.map_toArray, List.map_cons, List.map_nil, Sem.run_bind, Sem.run_pure, hr, Result.andThen_ok]
 exact hK _ _ (h _ _ hR)
end
theorem bs_M {w : World} {ops : Array Oper} {rest : List Oper} {o : Oper} {a : Act} {Q : Exit → Act → World → Prop} (hgd : o.guard = none) (x : Operand) (ho : o.op = .buildSlice 38 1 #[(0, x)]) (m : MsL) (A : Option Addr) (n p : Nat) (hx : a.eval x = msV m (.slice A n p))
   (h : ∀ w', Blk 49 w' w.heap.size (msC m (.slice A n p)) → Below w.heap.size w w' → wpList Tryz.prog ops Q rest (a.put o.dst (.slice (some ⟨w.heap.size, 0, none⟩) 1 1)) w') : wpList Tryz.prog ops Q (o :: rest) a w := by
 refine wpList_bsR hgd x _ ho _ hx _ (run_bsM2 m (.slice A n p) w) ?_
 rintro v w' ⟨rfl, h1, h2⟩
 exact h w' h1 h2
theorem app_M {w : World} {ops : Array Oper} {rest : List Oper} {o : Oper} {a : Act} {Q : Exit → Act → World → Prop} (hgd : o.guard = none) (s x : Operand) (ho : o.op = .call { callee := .builtin .append, args := #[s, x], argTypes := #[38, 38] }) (B : Nat) (A : Option Addr) (n c : Nat) (ms : List MsL) (hs : a.eval s = .slice A n c) (g : Nat) (hx : a.eval x = .slice (some ⟨g, 0, none⟩) 1 1) (hn : ms.length = n) (hO : OutL w B (.slice A n c) ms)
   (m : MsL) (Am : Option Addr) (nm pm : Nat) (hK : Blk 49 w g (msC m (.slice Am nm pm))) (hE : OwnE w B (.slice Am nm pm) m.es) (hb : n ≤ 100000) (hB : B ≤ w.heap.size)
   (h : ∀ A' c' w', OutL w' B (.slice A' (n + 1) c') (ms ++ [m]) → Below B w w' → wpList Tryz.prog ops Q rest (a.put o.dst (.slice A' (n + 1) c')) w') : wpList Tryz.prog ops Q (o :: rest) a w := by
 refine wpList_appR hgd s x _ ho _ _ hs hx _ (OutL.app w B o.type A n c ms hn hO g m Am nm pm hK hE hb hB) ?_
 rintro v w' ⟨⟨A', c', rfl⟩, h1, h2, -, -⟩
 exact h A' c' w' h1 h2
theorem own_two {w : World} {g B : Nat} {a b : List Value} (ha : a.length = 22) (hb' : b.length = 22) (hg : w.heap[g]? = some (.cells (a ++ b).toArray 49 (0, 0))) (hb : B ≤ g) : w.ownsRow B 49 22 (.slice (some ⟨g, 0, none⟩) 2 2) 2 (a ++ (b ++ [])) :=
 ⟨by simp [ha, hb'], .inr ⟨g, 2, (a ++ b).toArray, rfl, hb, hg, Nat.le_refl _, by unfold maxLen; omega, by simp [ha, hb'], by rw [List.append_nil]; exact List.take_of_length_le (by simp [ha, hb'])⟩⟩
theorem OutL.two {w : World} {g B : Nat} {x y : MsL} {A A2 : Option Addr} {n p n2 p2 : Nat} (hg : Blk 49 w g (msC x (.slice A n p) ++ msC y (.slice A2 n2 p2))) (hE : OwnE w B (.slice A n p) x.es) (hE2 : OwnE w B (.slice A2 n2 p2) y.es) (hb : B ≤ g) : OutL w B (.slice (some ⟨g, 0, none⟩) 2 2) [x, y] :=
 ⟨[(x, .slice A n p), (y, .slice A2 n2 p2)], own_two (ms_len _ _) (ms_len _ _) hg hb, rfl, fun z hz => by
   rcases List.mem_cons.1 hz with rfl | hz
   · exact ⟨A, n, p, rfl, hE⟩
   · rw [List.mem_singleton] at hz
     subst hz
     exact ⟨A2, n2, p2, rfl, hE2⟩⟩
theorem run_bsM22 (x y : MsL) (s t : Value) (w : World) : (Instr.buildSlice 38 2 #[(0, msV x s), (1, msV y t)]).run Tryz.prog w = .ok (.slice (some ⟨w.heap.size, 0, none⟩) 2 2) (w.alloc (.cells (msC x s ++ msC y t).toArray 49)) := by kernel_rfl
theorem run_bsM3 (x y : MsL) (s t : Value) (w : World) : ∃ v w', (Instr.buildSlice 38 2 #[(0, msV x s), (1, msV y t)]).run Tryz.prog w = .ok v w' ∧ v = .slice (some ⟨w.heap.size, 0, none⟩) 2 2 ∧ Blk 49 w' w.heap.size (msC x s ++ msC y t) ∧ Below w.heap.size w w' :=
 ⟨_, _, run_bsM22 x y s t w, rfl, heap_alloc_new w _, (Below.refl _ _).alloc (Nat.le_refl _) _⟩
section
variable {P : Program} {w : World} {ops : Array Oper} {rest : List Oper} {o : Oper} {a : Act} {K : Act → World → Prop} {Q : Exit → Act → World → Prop} {E : Prop}
theorem step_bsR2 (hgd : o.guard = none) (x y : Operand) (t : TypeId) (ho : o.op = .buildSlice t 2 #[(0, x), (1, y)]) (X Y : Value) (hx : a.eval x = X) (hy : a.eval y = Y) (R : Value → World → Prop)
   (hrun : ∃ v w', (Instr.buildSlice t 2 #[(0, X), (1, Y)]).run P w = .ok v w' ∧ R v w') (hK : ∀ v w', R v w' → K (a.put o.dst v) w') :
   if Region.wanted o (yielded ops a.tmps) = true then Oper.wp P o a w K Q else E := by
 have hw : Region.wanted o (yielded ops a.tmps) = true := by simp [Region.wanted, hgd]
 rw [if_pos hw]
 obtain ⟨v, w', hr, hR⟩ := hrun
 subst hx
 subst hy
 unfold Oper.wp execOp
 simp only [ho, List.map_toArray, List.map_cons, List.map_nil, Sem.run_bind, Sem.run_pure, hr, Result.andThen_ok]
 exact hK _ _ hR
end
theorem crset_nx {w : World} {g : Nat} {E : TypeId} {c : CoL} {s : Value} (h : Blk E w g (crC c s)) {k : Nat} (hk : k < 10) (z : Int) : Blk E (w.setCell ⟨g, 25 + k, none⟩ (.int .i64 z)) g (crC { c with nx := upd c.nx k z } s) := by
 have h2 := h.set_ (25 + k) (.int .i64 z)
 match k, hk with
 | 0, _ => exact h2
 | 1, _ => exact h2
 | 2, _ => exact h2
 | 3, _ => exact h2
 | 4, _ => exact h2
 | 5, _ => exact h2
 | 6, _ => exact h2
 | 7, _ => exact h2
 | 8, _ => exact h2
 | 9, _ => exact h2
theorem crset_mt {w : World} {g : Nat} {E : TypeId} {c : CoL} {s : Value} (h : Blk E w g (crC c s)) {k : Nat} (hk : k < 10) (z : Int) : Blk E (w.setCell ⟨g, 35 + k, none⟩ (.int .i64 z)) g (crC { c with mt := upd c.mt k z } s) := by
 have h2 := h.set_ (35 + k) (.int .i64 z)
 match k, hk with
 | 0, _ => exact h2
 | 1, _ => exact h2
 | 2, _ => exact h2
 | 3, _ => exact h2
 | 4, _ => exact h2
 | 5, _ => exact h2
 | 6, _ => exact h2
 | 7, _ => exact h2
 | 8, _ => exact h2
 | 9, _ => exact h2
theorem ldMv {P : Program} {E : TypeId} {w : World} {g : Nat} {m : MsL} {s : Value} (h : Blk E w g (msC m s)) : (loadCellsFrom ⟨g, 0, none⟩ 0 22 #[]).run P w = .ok (msC m s).toArray w :=
 by
 have := run_loadCells_list (P := P) w ⟨g, 0, none⟩ (msC m s) (fun j v hv => by rw [Addr.add_lit, Nat.zero_add, h.cell j]; exact hv)
 rwa [ms_len] at this
end Go.Proofs.YtegnfkbmlalkeaaGreat.kit
namespace Go.Proofs.YtegnfkbmlalkeaaGreat.kit
open Go Go.RowKit Go.Proofs.YtegnfkbmlalkeaaGreat.kit Go.Proofs.YtegnfkbmlalkeaaGreat.nums Go.Proofs.YtegnfkbmlalkeaaGreat.cf Go.Proofs.YtegnfkbmlalkeaaGreat.lg Go.Proofs.YtegnfkbmlalkeaaGreat.cr
set_option linter.unusedVariables false
section
variable {w : World} {a : Act} {o : Oper} {p q : Operand} {x y : Int}
theorem rb_max (ho : o.op = .call { callee := .builtin .max, args := #[p, q], argTypes := #[3, 3] }) (ht : o.type = 3) (hp : a.eval p = .int .i64 x) (hq : a.eval q = .int .i64 y) : (execOp a.eval o).run Tryz.prog w = .ok (.value (.int .i64 (max x y))) w := by
 have h0 : (Builtin.max_ #[3, 3] 3 #[.int .i64 x, .int .i64 y]).run Tryz.prog w = .ok (.int .i64 (if x < y then y else x)) w := by go_simp
 have h : (execOp a.eval o).run Tryz.prog w = .ok (.value (.int .i64 (if x < y then y else x))) w := by
   unfold execOp
   simp only [ho, resolve, invoke, builtin, Sem.run_bind, Sem.run_pure, Result.andThen_ok, List.map_toArray, List.map_cons, List.map_nil, hp, hq, ht, h0]
 rw [h, show (if x < y then y else x) = max x y by split <;> omega]
theorem rb_min (ho : o.op = .call { callee := .builtin .min, args := #[p, q], argTypes := #[3, 3] }) (ht : o.type = 3) (hp : a.eval p = .int .i64 x) (hq : a.eval q = .int .i64 y) : (execOp a.eval o).run Tryz.prog w = .ok (.value (.int .i64 (min x y))) w := by
 have h0 : (Builtin.min_ #[3, 3] 3 #[.int .i64 x, .int .i64 y]).run Tryz.prog w = .ok (.int .i64 (if y < x then y else x)) w := by go_simp
 have h : (execOp a.eval o).run Tryz.prog w = .ok (.value (.int .i64 (if y < x then y else x))) w := by
   unfold execOp
   simp only [ho, resolve, invoke, builtin, Sem.run_bind, Sem.run_pure, Result.andThen_ok, List.map_toArray, List.map_cons, List.map_nil, hp, hq, ht, h0]
 rw [h, show (if y < x then y else x) = min x y by split <;> omega]
theorem rb_maxz {z : Int} (ho : o.op = .call { callee := .builtin .max, args := #[p, q], argTypes := #[3, 3] }) (ht : o.type = 3) (hp : a.eval p = .int .i64 x) (hq : a.eval q = .int .i64 y) (hz : max x y = z) : (execOp a.eval o).run Tryz.prog w = .ok (.value (.int .i64 z)) w := by subst hz; exact rb_max ho ht hp hq
theorem rb_minz {z : Int} (ho : o.op = .call { callee := .builtin .min, args := #[p, q], argTypes := #[3, 3] }) (ht : o.type = 3) (hp : a.eval p = .int .i64 x) (hq : a.eval q = .int .i64 y) (hz : min x y = z) : (execOp a.eval o).run Tryz.prog w = .ok (.value (.int .i64 z)) w := by subst hz; exact rb_min ho ht hp hq
theorem rb_gtr {b : Bool} (ho : o.op = .binOp .gtr 3 p q 3) (hp : a.eval p = .int .i64 x) (hq : a.eval q = .int .i64 y) (hb : decide (x > y) = b) : (execOp a.eval o).run Tryz.prog w = .ok (.value (.bool b)) w := by
 subst hb
 unfold execOp
 simp only [ho, hp, hq]
 go_simp
end
end Go.Proofs.YtegnfkbmlalkeaaGreat.kit
namespace Go.Proofs.YtegnfkbmlalkeaaGreat.kit
open Go Go.RowKit Go.Proofs.YtegnfkbmlalkeaaGreat.kit Go.Proofs.YtegnfkbmlalkeaaGreat.nums Go.Proofs.YtegnfkbmlalkeaaGreat.cf Go.Proofs.YtegnfkbmlalkeaaGreat.lg Go.Proofs.YtegnfkbmlalkeaaGreat.cr
set_option linter.unusedVariables false
theorem wpList_val {P : Program} {w : World} {ops : Array Oper} {rest : List Oper} {o : Oper} {a : Act} {Q : Exit → Act → World → Prop} {X : Value} (hw : Region.wanted o (yielded ops a.tmps) = true) (hr : (execOp a.eval o).run P w = .ok (.value X) w)
   (h : wpList P ops Q rest (a.put o.dst X) w) : wpList P ops Q (o :: rest) a w := by
 simp only [wpList, hw, if_true]
 left
 unfold Oper.wp
 rw [hr]
 exact h
theorem rb_e0 {w : World} {a : Act} {o : Oper}   (ho : o.op = .build 52 #[(1, .const (.int .i64 0))])  : (execOp a.eval o).run Tryz.prog w = .ok (.value (enV zE)) w := by
 have h : (Instr.build 52 #[(1, .int .i64 0)]).run Tryz.prog w = .ok (enV zE) w := by kernel_rfl
 have hk : ∀ v, a.eval (.const v) = v := fun _ => rfl
 have e : (execOp a.eval o).run Tryz.prog w = ((Instr.build 52 #[(1, .int .i64 0)]).run Tryz.prog w).andThen fun v w' => .ok (.value v) w' := by
   unfold execOp
   simp [ho, hk]
 rw [e, h]; rfl
theorem bd_e0 {w : World} {ops : Array Oper} {rest : List Oper} {o : Oper} {a : Act} {Q : Exit → Act → World → Prop}   (ho : o.op = .build 52 #[(1, .const (.int .i64 0))]) (hw : Region.wanted o (yielded ops a.tmps) = true) 
   (h : wpList Tryz.prog ops Q rest (a.put o.dst (enV zE)) w) : wpList Tryz.prog ops Q (o :: rest) a w := wpList_val hw (rb_e0  ho ) h
theorem rb_ej {w : World} {a : Act} {o : Oper} {q3 : Operand} (j : JtL) (ho : o.op = .build 52 #[(1, .const (.int .i64 2)), (3, q3)]) (h3 : a.eval q3 = jV j) : (execOp a.eval o).run Tryz.prog w = .ok (.value (enV { zE with k := 2, j := j })) w := by
 have h : (Instr.build 52 #[(1, .int .i64 2), (3, jV j)]).run Tryz.prog w = .ok (enV { zE with k := 2, j := j }) w := by kernel_rfl
 have hk : ∀ v, a.eval (.const v) = v := fun _ => rfl
 have e : (execOp a.eval o).run Tryz.prog w = ((Instr.build 52 #[(1, .int .i64 2), (3, jV j)]).run Tryz.prog w).andThen fun v w' => .ok (.value v) w' := by
   unfold execOp
   simp [ho, hk, h3]
 rw [e, h]; rfl
end Go.Proofs.YtegnfkbmlalkeaaGreat.kit
namespace Go.Proofs.YtegnfkbmlalkeaaGreat.kit
open Go Go.RowKit Go.Proofs.YtegnfkbmlalkeaaGreat.kit Go.Proofs.YtegnfkbmlalkeaaGreat.nums Go.Proofs.YtegnfkbmlalkeaaGreat.cf Go.Proofs.YtegnfkbmlalkeaaGreat.lg Go.Proofs.YtegnfkbmlalkeaaGreat.cr
set_option linter.unusedVariables false
section
variable {w : World} {ops : Array Oper} {rest : List Oper} {o : Oper} {a : Act} {Q : Exit → Act → World → Prop} {g : Nat} {E : TypeId}
theorem bd_f3 {q0 q1 q2 : Operand} (s : Nat) (x y : Int) (ho : o.op = .build 25 #[(0, q0), (3, q1), (4, q2)]) (hw : Region.wanted o (yielded ops a.tmps) = true) (h0 : a.eval q0 = .int .u16 (s : Int)) (h1 : a.eval q1 = .int .i64 x) (h2 : a.eval q2 = .int .i64 y)
   (h : wpList Tryz.prog ops Q rest (a.put o.dst (cfV ⟨s, 0, 0, x, y⟩)) w) : wpList Tryz.prog ops Q (o :: rest) a w := by
 refine wpList_val hw ?_ h
 have hr : (Instr.build 25 #[(0, .int .u16 (s : Int)), (3, .int .i64 x), (4, .int .i64 y)]).run Tryz.prog w = .ok (cfV ⟨s, 0, 0, x, y⟩) w := by kernel_rfl
 unfold execOp
 simp [ho, h0, h1, h2, hr]
theorem bd_j1 {q0 : Operand} (c : CfL) (ho : o.op = .build 27 #[(0, q0)]) (hw : Region.wanted o (yielded ops a.tmps) = true) (h0 : a.eval q0 = cfV c)
   (h : wpList Tryz.prog ops Q rest (a.put o.dst (jV ⟨c, zeroC, false⟩)) w) : wpList Tryz.prog ops Q (o :: rest) a w := by
 refine wpList_val hw ?_ h
 have hr : (Instr.build 27 #[(0, cfV c)]).run Tryz.prog w = .ok (jV ⟨c, zeroC, false⟩) w := by kernel_rfl
 unfold execOp
 simp [ho, h0, hr]
theorem step_alC {K : Act → World → Prop} {E : Prop} (hgd : o.guard = none) (ho : o.op = .alloc 33)
   (hK : ∀ w', Blk 33 w' w.heap.size (crC zC (.slice none 0 0)) → Below w.heap.size w w' → K (a.put o.dst (.pointer (some ⟨w.heap.size, 0, none⟩))) w') : if Region.wanted o (yielded ops a.tmps) = true then Oper.wp Tryz.prog o a w K Q else E := by
 have hw : Region.wanted o (yielded ops a.tmps) = true := by simp [Region.wanted, hgd]
 rw [if_pos hw]
 have hz := zeroCv
 cases hq : Tryz.prog.info? 33 with
 | none => simp [hq] at hz
 | some i =>
   have hz' : i.zero = some (.agg zCc.toArray) := by simpa [hq] using hz
   unfold Oper.wp execOp
   simp [ho, Instr.alloc, zeroValue, typeInfo, hq, hz', newVar, newRow, Sem.run_bind, Sem.run_pure]
   exact hK _ (heap_alloc_new w _) ((Below.refl _ _).alloc (Nat.le_refl _) _)
theorem bd_lz (ho : o.op = .build 30 #[]) (hw : Region.wanted o (yielded ops a.tmps) = true)
   (h : wpList Tryz.prog ops Q rest (a.put o.dst (lgV zL (.slice none 0 0))) w) : wpList Tryz.prog ops Q (o :: rest) a w := by
 refine wpList_val hw ?_ h
 have hr : (Instr.build 30 #[]).run Tryz.prog w = .ok (lgV zL (.slice none 0 0)) w := by kernel_rfl
 unfold execOp
 simp [ho, hr]
theorem bd_vot {q0 q1 q2 q3 q8 : Operand} (k f t m : Int) (y : Bool) (ho : o.op = .build 49 #[(0, q0), (1, q1), (2, q2), (3, q3), (8, q8)]) (hw : Region.wanted o (yielded ops a.tmps) = true) (h0 : a.eval q0 = .int .i64 k) (h1 : a.eval q1 = .int .i64 f) (h2 : a.eval q2 = .int .i64 t) (h3 : a.eval q3 = .int .i64 m) (h8 : a.eval q8 = .bool y)
   (h : wpList Tryz.prog ops Q rest (a.put o.dst (msV { zM with k := k, f := f, t := t, m := m, y := y } (.slice none 0 0))) w) : wpList Tryz.prog ops Q (o :: rest) a w := by
 refine wpList_val hw ?_ h
 have hr : (Instr.build 49 #[(0, .int .i64 k), (1, .int .i64 f), (2, .int .i64 t), (3, .int .i64 m), (8, .bool y)]).run Tryz.prog w = .ok (msV { zM with k := k, f := f, t := t, m := m, y := y } (.slice none 0 0)) w := by kernel_rfl
 unfold execOp
 simp [ho, h0, h1, h2, h3, h8, hr]
end
end Go.Proofs.YtegnfkbmlalkeaaGreat.kit
namespace Go.Proofs.YtegnfkbmlalkeaaGreat.kit
open Go Go.RowKit Go.Proofs.YtegnfkbmlalkeaaGreat.kit Go.Proofs.YtegnfkbmlalkeaaGreat.nums Go.Proofs.YtegnfkbmlalkeaaGreat.cf Go.Proofs.YtegnfkbmlalkeaaGreat.lg Go.Proofs.YtegnfkbmlalkeaaGreat.cr
set_option linter.unusedVariables false
def InM (w : World) (B : Nat) (A : Option Addr) (n : Nat) (xs : List (MsL × Value)) : Prop :=
 xs.length = n ∧ (0 < n → ∃ b o, A = some ⟨b, o, none⟩ ∧ b < B ∧ ∀ (j : Nat) (x : MsL × Value), xs[j]? = some x → At w b (o + j * 22) (msC x.1 x.2)) ∧
   ∀ x ∈ xs, ∃ A' n' p', x.2 = .slice A' n' p' ∧ n' ≤ p' ∧ RdE w B A' n' x.1.es
def NotM (g : Nat) (A : Option Addr) (n : Nat) (xs : List (MsL × Value)) : Prop := NotIn g A n ∧ ∀ x ∈ xs, ∀ A' n' p', x.2 = .slice A' n' p' → NotIn g A' n'
section
variable {w w' : World} {B B' n g : Nat} {A : Option Addr} {xs : List (MsL × Value)}
theorem InM.len (h : InM w B A n xs) : xs.length = n := h.1
theorem InM.below (h : InM w B A n xs) (hb : Below B w w') : InM w' B A n xs := ⟨h.1, fun hn => by
 obtain ⟨b, o, e, hlt, hc⟩ := h.2.1 hn
 exact ⟨b, o, e, hlt, fun j x hx => (hc j x hx).below hlt hb⟩, fun x hx => by
 obtain ⟨A', n', p', e, h1, h2⟩ := h.2.2 x hx
 exact ⟨A', n', p', e, h1, h2.below hb⟩⟩
theorem InM.more (h : InM w B A n xs) (hB : B ≤ B') : InM w B' A n xs := ⟨h.1, fun hn => by
 obtain ⟨b, o, e, hlt, hc⟩ := h.2.1 hn
 exact ⟨b, o, e, by omega, hc⟩, fun x hx => by
 obtain ⟨A', n', p', e, h1, h2⟩ := h.2.2 x hx
 exact ⟨A', n', p', e, h1, h2.more hB⟩⟩
theorem InM.on (h : InM w B A n xs) (hb : Below B w w') (hB : B ≤ B') : InM w' B' A n xs := (h.below hb).more hB
theorem InM.nil (w : World) (B : Nat) (A : Option Addr) : InM w B A 0 [] := ⟨rfl, fun h => absurd h (by omega), fun x hx => by cases hx⟩
theorem InM.at_ (h : InM w B A n xs) {j : Nat} (hj : j < n) : ∃ b o x A' n' p', A = some ⟨b, o, none⟩ ∧ b < B ∧ xs[j]? = some x ∧ x.2 = .slice A' n' p' ∧ n' ≤ p' ∧ At w b (o + j * 22) (msC x.1 (.slice A' n' p')) ∧ RdE w B A' n' x.1.es := by
 obtain ⟨b, o, e, hlt, hc⟩ := h.2.1 (by omega)
 have hl : j < xs.length := by rw [h.1]; exact hj
 have hg := List.getElem?_eq_getElem hl
 obtain ⟨A', n', p', e2, h1, h2⟩ := h.2.2 xs[j] (List.getElem_mem hl)
 have := hc j _ hg
 rw [e2] at this
 exact ⟨b, o, xs[j], A', n', p', e, hlt, hg, e2, h1, this, h2⟩
theorem at_put {b o : Nat} {l : List Value} (h : At w b o l) (hp : Put w w' g) (hb : b ≠ g) : At w' b o l := fun j u hu => by
 have := h j u hu
 unfold World.cell? at this ⊢
 rw [hp.other b hb]
 exact this
theorem InM.putS (h : InM w w.heap.size A n xs) (hp : Put w w' g) (hn : NotM g A n xs) : InM w' w'.heap.size A n xs := by
 rw [hp.size]
 exact ⟨h.1, fun h0 => by
   obtain ⟨b, o, e, hlt, hc⟩ := h.2.1 h0
   exact ⟨b, o, e, hlt, fun j x hx => at_put (hc j x hx) hp (hn.1 b o h0 e)⟩, fun x hx => by
   obtain ⟨A', n', p', e, h1, h2⟩ := h.2.2 x hx
   exact ⟨A', n', p', e, h1, h2.putN hp (hn.2 x hx A' n' p' e)⟩⟩
theorem NotM.of_in (h : InM w B A n xs) (hb : B ≤ g) : NotM g A n xs := ⟨fun b off h0 e => by
 obtain ⟨b', o, e', hlt, _⟩ := h.2.1 h0
 rw [e] at e'
 cases e'
 omega, fun x hx A' n' p' e => by
 obtain ⟨A2, n2, p2, e2, _, h2⟩ := h.2.2 x hx
 rw [e] at e2
 cases e2
 exact NotIn.of_rd h2 hb⟩
theorem NotM.nil (g : Nat) (A : Option Addr) : NotM g A 0 [] := ⟨NotIn.nil _ _, fun x hx => by cases hx⟩
theorem OwnM.in_ {base : Nat} {v : Value} (h : OwnM w base v xs) : ∃ A c, v = .slice A xs.length c ∧ xs.length ≤ c ∧ (0 < xs.length → ∃ b o, A = some ⟨b, o, none⟩ ∧ base ≤ b ∧ b < w.heap.size ∧ ∀ (j : Nat) (x : MsL × Value), xs[j]? = some x → At w b (o + j * 22) (msC x.1 x.2)) := by
 rcases h.2 with ⟨hv, hn⟩ | ⟨g, cap, cur, rfl, hb, hg, hnc, hcm, hcs, htake⟩
 · exact ⟨none, 0, by rw [hv, hn], by omega, fun hp => absurd hp (by omega)⟩
 · refine ⟨_, cap, rfl, hnc, fun hp => ⟨g, 0, rfl, hb, lt_of_block hg, fun j x hx q u hu => ?_⟩⟩
   have hq : q < 22 := (List.getElem?_eq_some_iff.1 hu).1
   have hj : j < xs.length := (List.getElem?_eq_some_iff.1 hx).1
   have hget := flat_get (fun x : MsL × Value => msC x.1 x.2) 22 (fun x => ms_len x.1 x.2) xs j q x hx hq
   rw [← htake, List.getElem?_take, if_pos (by omega)] at hget
   rw [Nat.zero_add, cell_of_row w g _ _ _ (0, 0) hg, ← Array.getElem?_toList, hget]
   exact hu
theorem OutL.in_ {v : Value} {ms : List MsL} (h : OutL w B v ms) (hB : B ≤ w.heap.size) : ∃ A c xs, v = .slice A ms.length c ∧ xs.map Prod.fst = ms ∧ InM w w.heap.size A ms.length xs ∧ ∀ g, g < B → NotM g A ms.length xs := by
 obtain ⟨xs, h1, h2, h3⟩ := h
 obtain ⟨A, c, e, _, h4⟩ := OwnM.in_ h1
 have hl : xs.length = ms.length := by rw [← h2, List.length_map]
 rw [hl] at e h4
 refine ⟨A, c, xs, e, h2, ⟨hl, fun h0 => ?_, fun x hx => ?_⟩, fun g hg => ⟨fun b off h0 e2 => ?_, fun x hx A' n' p' e2 => ?_⟩⟩
 · obtain ⟨b, o, e1, _, hlt, hc⟩ := h4 h0
   exact ⟨b, o, e1, hlt, hc⟩
 · obtain ⟨A', n', p', e1, h5⟩ := h3 x hx
   have h6 := h5.cap
   exact ⟨A', n', p', e1, h6.2.1, h6.2.2.2⟩
 · obtain ⟨b', o, e1, hb, _⟩ := h4 h0
   rw [e2] at e1
   cases e1
   omega
 · obtain ⟨A2, n2, p2, e1, h5⟩ := h3 x hx
   rw [e2] at e1
   cases e1
   intro b off _ eb
   have := (h5.blk_lt b off eb).1
   omega
end
end Go.Proofs.YtegnfkbmlalkeaaGreat.kit
namespace Go.Proofs.YtegnfkbmlalkeaaGreat.kit
open Go Go.RowKit Go.MapKept Go.Proofs.YtegnfkbmlalkeaaGreat.kit Go.Proofs.YtegnfkbmlalkeaaGreat.nums
set_option linter.unusedVariables false
def MapS (w : World) (m : Nat) (S : Int → Int → Prop) : Prop := ∃ (es : Array MapEntry) (c : Nat), w.heap[m]? = some (.map es c) ∧ ∀ e ∈ es.toList, ∃ k v : Int, e.key = .int .i64 k ∧ e.val = .int .i64 v ∧ S k v
section
variable {P : Program} {w w' : World} {m g : Nat} {S : Int → Int → Prop} {t k e : TypeId}
theorem MapS.lt (h : MapS w m S) : m < w.heap.size := by
 obtain ⟨es, c, h1, _⟩ := h
 exact (Array.getElem?_eq_some_iff.1 h1).1
theorem MapS.keep (h : MapS w m S) (hk : w'.heap[m]? = w.heap[m]?) : MapS w' m S := by
 obtain ⟨es, c, h1, h2⟩ := h
 exact ⟨es, c, hk.trans h1, h2⟩
theorem MapS.below (h : MapS w m S) (hb : Below w.heap.size w w') (_ : m < w.heap.size) : MapS w' m S := h.keep (hb.block m h.lt)
theorem MapS.put (h : MapS w m S) (hp : Put w w' g) (hm : m ≠ g) : MapS w' m S := h.keep (hp.other m hm)
theorem find_now {f : Int} : ∀ (es : List MapEntry) (i : Nat), (∀ e ∈ es, ∃ k v : Int, e.key = .int .i64 k ∧ e.val = .int .i64 v ∧ S k v) →
   Instr.findNow (.int .i64) (.int .i64 f) es i = some none ∨ ∃ (j : Nat) (v : Int) (x : MapEntry), Instr.findNow (.int .i64) (.int .i64 f) es i = some (some (i + j, .int .i64 v)) ∧ S f v ∧ es[j]? = some x ∧ x.key = .int .i64 f
 | [], i, _ => .inl rfl
 | e :: es, i, h => by
   obtain ⟨k, v, h1, h2, h3⟩ := h e List.mem_cons_self
   by_cases hk : f = k
   · subst hk
     refine .inr ⟨0, v, e, ?_, h3, rfl, h1⟩
     simp [Instr.findNow, Instr.sameNow, h1, h2]
   · have hs : Instr.findNow (.int .i64) (.int .i64 f) (e :: es) i = Instr.findNow (.int .i64) (.int .i64 f) es (i + 1) := by
       have : (f == k) = false := by simpa using hk
       simp [Instr.findNow, Instr.sameNow, h1, this]
     rcases find_now es (i + 1) (fun x hx => h x (List.mem_cons_of_mem _ hx)) with h4 | ⟨j, u, x, h4, h5, h6, h7⟩
     · exact .inl (hs.trans h4)
     · refine .inr ⟨j + 1, u, x, ?_, h5, h6, h7⟩
       rw [hs, h4, Nat.add_right_comm]; rfl
theorem run_lookS (h : MapS w m S) (ht : P.underlying t = some (.map k e)) (hk : P.underlying k = some (.int .i64)) (hz : (zeroValue e).run P w = .ok (.int .i64 0) w) (f : Int) :
   ∃ (v : Int) (b : Bool), (Instr.lookup t (.map (some m)) (.int .i64 f) true).run P w = .ok (.tuple #[.int .i64 v, .bool b]) w ∧ (b = true → S f v) := by
 obtain ⟨es, c, h1, h2⟩ := h
 have hc : (Instr.checkKey es.isEmpty 10000 k (.int .i64 f)).run P w = .ok () w := MapKept.run_checkKey (k := .int .i64 f) hk (by simp [IsKey]) es.isEmpty 9999
 rcases find_now (f := f) es.toList 0 h2 with h4 | ⟨j, u, x, h4, h5, _, _⟩
 · exact ⟨0, false, by simp [Instr.lookup, run_underlying ht, MapKept.run_getObj_map h1, hc, MapKept.run_findKey hk h4, hz, Result.andThen], fun h => by cases h⟩
 · exact ⟨u, true, by simp [Instr.lookup, run_underlying ht, MapKept.run_getObj_map h1, hc, MapKept.run_findKey hk h4, Result.andThen], fun _ => h5⟩
theorem put_obj (w : World) (m : Nat) (o : Obj) : Put w { w with heap := w.heap.setIfInBounds m o } m :=
 ⟨fun q hq => by rw [Array.getElem?_setIfInBounds_ne (fun e => hq e.symm)], fun B w0 hb hB => ⟨hb.os, hb.tape, hb.output, by simpa using hb.size, fun k hk => by
   show (w.heap.setIfInBounds m o)[k]? = _
   rw [Array.getElem?_setIfInBounds_ne (by omega)]
   exact hb.block k hk⟩, by simp⟩
theorem run_putS (h : MapS w m S) (ht : P.underlying t = some (.map k e)) (hk : P.underlying k = some (.int .i64)) (f u : Int) :
   ∃ w', (Instr.mapUpdate t (.map (some m)) (.int .i64 f) (.int .i64 u)).run P w = .ok () w' ∧ MapS w' m (fun a b => S a b ∨ (a = f ∧ b = u)) ∧ Put w w' m := by
 have hlt := h.lt
 obtain ⟨es, c, h1, h2⟩ := h
 have hc : (Instr.checkKey false 10000 k (.int .i64 f)).run P w = .ok () w := MapKept.run_checkKey (k := .int .i64 f) hk (by simp [IsKey]) false 9999
 rcases find_now (f := f) es.toList 0 h2 with h4 | ⟨j, v, x, h4, h5, h6, h7⟩
 · refine ⟨{ w with heap := w.heap.setIfInBounds m (.map (es.push ⟨.int .i64 f, .int .i64 u, c⟩) (c + 1)) }, ?_, ⟨_, _, (heap_set h1).1, fun y hy => ?_⟩, put_obj _ _ _⟩
   · simp [Instr.mapUpdate, run_underlying ht, MapKept.run_getObj_map h1, hc, MapKept.run_findKey hk h4, MapKept.run_setObj_map _ h1, Result.andThen]
   · rw [Array.toList_push, List.mem_append, List.mem_singleton] at hy
     rcases hy with hy | rfl
     · obtain ⟨a, b, e1, e2, e3⟩ := h2 y hy
       exact ⟨a, b, e1, e2, .inl e3⟩
     · exact ⟨f, u, rfl, rfl, .inr ⟨rfl, rfl⟩⟩
 · rw [Nat.zero_add] at h4
   have hst : (Instr.keyThatStays (.int .i64 f) (.int .i64 f)).run P w = .ok (.int .i64 f) w := MapKept.run_keyThatStays (d := .int .i64) (by simp [IsKey])
   have hx : es[j]? = some x := by rw [← Array.getElem?_toList]; exact h6
   have hst' : (Instr.keyThatStays (((es[j]?).map (·.key)).getD (.int .i64 f)) (.int .i64 f)).run P w = .ok (.int .i64 f) w := by
     rw [hx]
     show (Instr.keyThatStays x.key (.int .i64 f)).run P w = _
     rw [h7]; exact hst
   refine ⟨{ w with heap := w.heap.setIfInBounds m (.map (es.modify j fun e => { e with key := .int .i64 f, val := .int .i64 u }) c) }, ?_, ⟨_, _, (heap_set h1).1, fun y hy => ?_⟩, put_obj _ _ _⟩
   · simp only [Instr.mapUpdate, Sem.run_bind, run_underlying ht, MapKept.run_getObj_map h1, hc, MapKept.run_findKey hk h4, hst', MapKept.run_setObj_map _ h1, Result.andThen_ok]
   · obtain ⟨q, hq⟩ := List.getElem?_of_mem hy
     rw [Array.getElem?_toList, Array.getElem?_modify] at hq
     by_cases hj : j = q
     · subst hj
       rw [if_pos rfl, hx] at hq
       obtain rfl := Option.some.inj hq
       exact ⟨f, u, rfl, rfl, .inr ⟨rfl, rfl⟩⟩
     · rw [if_neg hj] at hq
       obtain ⟨a, b, e1, e2, e3⟩ := h2 y (List.mem_of_getElem? (by rw [Array.getElem?_toList]; exact hq))
       exact ⟨a, b, e1, e2, .inl e3⟩
theorem MapS.more (h : MapS w m S) {T : Int → Int → Prop} (hT : ∀ a b, S a b → T a b) : MapS w m T := by
 obtain ⟨es, c, h1, h2⟩ := h
 exact ⟨es, c, h1, fun y hy => by
   obtain ⟨a, b, e1, e2, e3⟩ := h2 y hy
   exact ⟨a, b, e1, e2, hT _ _ e3⟩⟩
theorem run_makeS (w : World) : (Instr.makeMap t none).run P w = .ok (.map (some w.heap.size)) (w.alloc (.map #[] 0)) := by
 simp [Instr.makeMap, Result.andThen]
end
section
variable {P : Program} {w : World} {ops : Array Oper} {rest : List Oper} {o : Oper} {a : Act} {Q : Exit → Act → World → Prop} {t k e : TypeId} {mb : Nat} {S : Int → Int → Prop}
theorem wpList_makeS (hg : o.guard = none) (ho : o.op = .makeMap t none) (S : Int → Int → Prop)
   (h : ∀ w', MapS w' w.heap.size S → Below w.heap.size w w' → wpList P ops Q rest (a.put o.dst (.map (some w.heap.size))) w') : wpList P ops Q (o :: rest) a w := by
 refine wpList_plain hg fun K' hK' => ?_
 unfold Oper.wp
 have hr := run_makeS (P := P) (t := t) w
 simp [execOp, ho, hr, Result.andThen]
 exact hK' _ _ (h _ ⟨#[], 0, heap_alloc_new w _, fun y hy => by cases hy⟩ ((Below.refl _ _).alloc (Nat.le_refl _) _))
theorem wpList_putS (hg : o.guard = none) (m x v : Operand) (ho : o.op = .mapUpdate t m x v) (ht : P.underlying t = some (.map k e)) (hk : P.underlying k = some (.int .i64)) (f u : Int) (hm : a.eval m = .map (some mb)) (hx : a.eval x = .int .i64 f) (hv : a.eval v = .int .i64 u) (hM : MapS w mb S)
   (h : ∀ w', MapS w' mb (fun a b => S a b ∨ (a = f ∧ b = u)) → Put w w' mb → wpList P ops Q rest (a.put o.dst undef) w') : wpList P ops Q (o :: rest) a w := by
 refine wpList_plain hg fun K' hK' => ?_
 obtain ⟨w', hr, h1, h2⟩ := run_putS hM ht hk f u
 unfold Oper.wp
 simp [execOp, ho, hm, hx, hv, hr, Result.andThen]
 exact hK' _ _ (h w' h1 h2)
theorem step_putS {K : Act → World → Prop} {E : Prop} (hg : o.guard = none) (m x v : Operand) (ho : o.op = .mapUpdate t m x v) (ht : P.underlying t = some (.map k e)) (hk : P.underlying k = some (.int .i64)) (f u : Int) (hm : a.eval m = .map (some mb)) (hx : a.eval x = .int .i64 f) (hv : a.eval v = .int .i64 u) (hM : MapS w mb S)
   (h : ∀ w', MapS w' mb (fun a b => S a b ∨ (a = f ∧ b = u)) → Put w w' mb → K (a.put o.dst undef) w') : if Region.wanted o (yielded ops a.tmps) = true then Oper.wp P o a w K Q else E := by
 have hw : Region.wanted o (yielded ops a.tmps) = true := by simp [Region.wanted, hg]
 rw [if_pos hw]
 obtain ⟨w', hr, h1, h2⟩ := run_putS hM ht hk f u
 unfold Oper.wp
 simp [execOp, ho, hm, hx, hv, hr, Result.andThen]
 exact h w' h1 h2
theorem wpList_lookS (hg : o.guard = none) (m x : Operand) (ho : o.op = .lookup t m x true) (ht : P.underlying t = some (.map k e)) (hk : P.underlying k = some (.int .i64)) (hz : (zeroValue e).run P w = .ok (.int .i64 0) w) (f : Int) (hm : a.eval m = .map (some mb)) (hx : a.eval x = .int .i64 f) (hM : MapS w mb S)
   (h : ∀ (v : Int) (q : Nat), Hid (decide (0 < q) = true → S f v) → wpList P ops Q rest (a.put o.dst (.tuple #[.int .i64 v, .bool (decide (0 < q))])) w) : wpList P ops Q (o :: rest) a w := by
 refine wpList_plain hg fun K' hK' => ?_
 obtain ⟨v, b, hr, h1⟩ := run_lookS hM ht hk hz f
 obtain ⟨q, hq⟩ : ∃ q : Nat, decide (0 < q) = b := by
   cases b with
   | true => exact ⟨1, rfl⟩
   | false => exact ⟨0, rfl⟩
 have h2 := h v q (Lib.hid (fun e => h1 (hq.symm.trans e)))
 rw [hq] at h2
 unfold Oper.wp
 simp [execOp, ho, hm, hx, hr, Result.andThen]
 exact hK' _ _ h2
end
end Go.Proofs.YtegnfkbmlalkeaaGreat.kit
namespace Go.Proofs.YtegnfkbmlalkeaaGreat.law13
open Go Go.RowKit Go.Proofs.YtegnfkbmlalkeaaGreat.kit Go.Proofs.YtegnfkbmlalkeaaGreat.nums Go.Proofs.YtegnfkbmlalkeaaGreat.cf Go.Proofs.YtegnfkbmlalkeaaGreat.lg Go.Proofs.YtegnfkbmlalkeaaGreat.cr Go.Proofs.YtegnfkbmlalkeaaGreat.se
set_option linter.unusedVariables false
set_option maxHeartbeats 4000000 in
set_option maxRecDepth 10000 in
theorem light_any (c : CoL) (A : Option Addr) (n p : Nat) (w : World) (B : Nat) (hR : RdE w B A n c.lg.es) (hB : B ≤ w.heap.size) (hp : n ≤ p) : Calls Tryz.prog 12 #[crV c (.slice A n p)] w fun e w' => ∃ bl, e = .returned (.bool bl) ∧ Hid (bl = true → n ≤ 60) ∧ Below w.heap.size w w' := by
 have hn2 := Lib.hid hp
 have R0 := hR.more hB
 clear hR hB
 go_enter Tryz.func12, Tryz.ntmps12
 go_wp2_with (first | go_skip | refine box_C rfl _ rfl c (.slice A n p) rfl ?_ | fail)
 intro y1 kC e1 s1
 clear s1
 have HB := e1
 replace R0 := R0.on e1 e1.size
 clear e1
 go_wp2_with (first | go_skip | refine lo_Cj kC ?_ | refine lo_cLj kC ?_ | refine lo_cJj kC ?_)
 refine (law12.light_any c.lg A n p none 0 0 [] y1 y1.heap.size y1.heap.size R0 (Nat.le_refl _) (RdE.nil _ _ _) (Nat.le_refl _)).mono ?_
 rintro e y9 ⟨bl, rfl, hbl, hY⟩
 replace HB := bt HB hY
 replace kC := kC.b hY
 replace R0 := R0.on hY hY.size
 clear hY
 rcases bl with _ | _
 · skip
   go_wp2_with (first | go_skip | refine lo_Cj kC ?_ | refine lo_cLj kC ?_ | refine lo_cJj kC ?_)
   go_ret
   exact ⟨false, rfl, Lib.hid (fun h => by cases h), HB⟩
 have hle := Lib.hid (hbl.out rfl).1
 have csn : y9.cell? ⟨w.heap.size, 22, none⟩ = some (.string c.sn) := by exact kC.cell 22
 go_wp2_with (first | go_skip | refine lo_Cj kC ?_ | refine lo_cLj kC ?_ | refine lo_cJj kC ?_)
 go_ret
 exact ⟨_, rfl, Lib.hid (fun _ => hle.out), HB⟩
set_option maxHeartbeats 4000000 in
set_option maxRecDepth 10000 in
theorem lightMsg_any (m : MsL) (A : Option Addr) (n p : Nat) (w : World) (B : Nat) (hR : RdE w B A n m.es) (hB : B ≤ w.heap.size) : Calls Tryz.prog 26 #[msV m (.slice A n p)] w fun e w' => ∃ bl, e = .returned (.bool bl) ∧ Hid (bl = true → n ≤ 60) ∧ Below w.heap.size w w' := by
 have R0 := hR.more hB
 clear hR hB
 go_enter Tryz.func26, Tryz.ntmps26
 go_wp2_with (first | go_skip | refine box_M rfl _ rfl m (.slice A n p) rfl ?_ | fail)
 intro y1 kM e1 s1
 clear s1
 have HB := e1
 replace R0 := R0.on e1 e1.size
 clear e1
 have csl : y1.cell? ⟨w.heap.size, 9, none⟩ = some (.slice A n p) := by exact kM.cell 9
 go_wp2_with (first | go_skip | refine lo_Mj kM ?_ | refine lo_mJj kM ?_ | refine bd_lz rfl rfl ?_)
 clear csl
 refine (law12.light_any zL none 0 0 A n p m.es y1 y1.heap.size y1.heap.size (RdE.nil _ _ _) (Nat.le_refl _) R0 (Nat.le_refl _)).mono ?_
 rintro e y9 ⟨bl, rfl, hbl, hY⟩
 replace HB := bt HB hY
 replace kM := kM.b hY
 replace R0 := R0.on hY hY.size
 clear hY
 rcases bl with _ | _
 · skip
   go_wp2_with (first | go_skip | refine lo_Mj kM ?_ | refine lo_mJj kM ?_)
   go_ret
   exact ⟨false, rfl, Lib.hid (fun h => by cases h), HB⟩
 have hle := Lib.hid (hbl.out rfl).2
 have csn : y9.cell? ⟨w.heap.size, 10, none⟩ = some (.string m.d) := by exact kM.cell 10
 go_wp2_with (first | go_skip | refine lo_Mj kM ?_ | refine lo_mJj kM ?_)
 go_ret
 exact ⟨_, rfl, Lib.hid (fun _ => hle.out), HB⟩
end Go.Proofs.YtegnfkbmlalkeaaGreat.law13
namespace Go.Proofs.YtegnfkbmlalkeaaGreat.enti
open Go Go.RowKit Go.Proofs.YtegnfkbmlalkeaaGreat.kit Go.Proofs.YtegnfkbmlalkeaaGreat.nums Go.Proofs.YtegnfkbmlalkeaaGreat.cf Go.Proofs.YtegnfkbmlalkeaaGreat.lg
set_option linter.unusedVariables false
set_option maxHeartbeats 1000000 in
theorem term_any (L : LgL) (A : Option Addr) (n c : Nat) (i : Int) (w : World) (B : Nat) (hR : RdE w B A n L.es) (hB : B ≤ w.heap.size) (hc : n ≤ c) (hf : Fit L) : Calls Tryz.prog 106 #[lgV L (.slice A n c), .int .i64 i] w fun e w' => e = .returned (.tuple #[.int .i64 (termF L i).1, .bool (termF L i).2]) ∧ Below w.heap.size w w' := by
 have CA := Lib.hid (fun (w' : World) (hb : Below w.heap.size w w') => at_any L A n c i w' w.heap.size ((hR.more hB).below hb) hb.size hc hf)
 have HT : Hid (termF L i = if i = L.b then (L.t, true) else ((atF L i).1.t, (atF L i).2)) := rfl
 rw [HT.out]
 clear HT hR hB hf
 generalize atF L i = RES at *
 obtain ⟨x, bl⟩ := RES
 unfold enV at CA
 unfold lgV at *
 obtain ⟨b, t, j, es⟩ := L
 dsimp only at *
 have k0 : Blk 30 (w.alloc (.cells #[.int .i64 b, .int .i64 t, j0 j, j1 j, j2 j, j3 j, j4 j, j5 j, j6 j, j7 j, j8 j, j9 j, j10 j, .slice A n c] 30)) w.heap.size [.int .i64 b, .int .i64 t, j0 j, j1 j, j2 j, j3 j, j4 j, j5 j, j6 j, j7 j, j8 j, j9 j, j10 j, .slice A n c] := (heap_alloc_new w (.cells #[.int .i64 b, .int .i64 t, j0 j, j1 j, j2 j, j3 j, j4 j, j5 j, j6 j, j7 j, j8 j, j9 j, j10 j, .slice A n c] 30))
 have hB : Below w.heap.size w (w.alloc (.cells #[.int .i64 b, .int .i64 t, j0 j, j1 j, j2 j, j3 j, j4 j, j5 j, j6 j, j7 j, j8 j, j9 j, j10 j, .slice A n c] 30)) := ((Below.refl w.heap.size w).alloc (by first | exact Nat.le_refl _ | simp) (.cells #[.int .i64 b, .int .i64 t, j0 j, j1 j, j2 j, j3 j, j4 j, j5 j, j6 j, j7 j, j8 j, j9 j, j10 j, .slice A n c] 30))
 have HB := Lib.hid hB
 have HS : Hid (∀ wq, Below (w.alloc (.cells #[.int .i64 b, .int .i64 t, j0 j, j1 j, j2 j, j3 j, j4 j, j5 j, j6 j, j7 j, j8 j, j9 j, j10 j, .slice A n c] 30)).heap.size (w.alloc (.cells #[.int .i64 b, .int .i64 t, j0 j, j1 j, j2 j, j3 j, j4 j, j5 j, j6 j, j7 j, j8 j, j9 j, j10 j, .slice A n c] 30)) wq → (wq.cell? ⟨w.heap.size, 0, none⟩ = some (.int .i64 b) ∧ wq.cell? ⟨w.heap.size, 1, none⟩ = some (.int .i64 t) ∧ wq.cell? ⟨w.heap.size, 2, none⟩ = some (j0 j) ∧ wq.cell? ⟨w.heap.size, 3, none⟩ = some (j1 j) ∧ wq.cell? ⟨w.heap.size, 4, none⟩ = some (j2 j) ∧ wq.cell? ⟨w.heap.size, 5, none⟩ = some (j3 j) ∧ wq.cell? ⟨w.heap.size, 6, none⟩ = some (j4 j) ∧ wq.cell? ⟨w.heap.size, 7, none⟩ = some (j5 j) ∧ wq.cell? ⟨w.heap.size, 8, none⟩ = some (j6 j) ∧ wq.cell? ⟨w.heap.size, 9, none⟩ = some (j7 j) ∧ wq.cell? ⟨w.heap.size, 10, none⟩ = some (j8 j) ∧ wq.cell? ⟨w.heap.size, 11, none⟩ = some (j9 j) ∧ wq.cell? ⟨w.heap.size, 12, none⟩ = some (j10 j) ∧ wq.cell? ⟨w.heap.size, 13, none⟩ = some (.slice A n c))) := fun wq hq => blk14 (k0.below hq k0.lt)
 have q0 := Below.refl (w.alloc (.cells #[.int .i64 b, .int .i64 t, j0 j, j1 j, j2 j, j3 j, j4 j, j5 j, j6 j, j7 j, j8 j, j9 j, j10 j, .slice A n c] 30)).heap.size (w.alloc (.cells #[.int .i64 b, .int .i64 t, j0 j, j1 j, j2 j, j3 j, j4 j, j5 j, j6 j, j7 j, j8 j, j9 j, j10 j, .slice A n c] 30))
 have K0 := Lib.hid k0
 clear hB k0
 by_cases h1 : i = b
 · have h1 := h1.symm
   subst h1
   rw [if_pos rfl]
   go_enter Tryz.func106, Tryz.ntmps106
   go_upto_region 1 with (fail)
   generalize (w.alloc (.cells #[.int .i64 b, .int .i64 t, j0 j, j1 j, j2 j, j3 j, j4 j, j5 j, j6 j, j7 j, j8 j, j9 j, j10 j, .slice A n c] 30)) = w1 at *
   have r0 := HS.out _ q0
   go_wp2_with fail
   (try simp only [Exit.inBlock, Exit.then])
   refine bodyPost_ret (resT2 Tryz.results106 rfl rfl) rfl ?_
   exact ⟨rfl, HB.out⟩
 · rw [if_neg h1]
   have h1 : (i == b) = false := by simpa using h1
   go_enter Tryz.func106, Tryz.ntmps106
   go_upto_region 1 with (fail)
   generalize (w.alloc (.cells #[.int .i64 b, .int .i64 t, j0 j, j1 j, j2 j, j3 j, j4 j, j5 j, j6 j, j7 j, j8 j, j9 j, j10 j, .slice A n c] 30)) = w1 at *
   have r0 := HS.out _ q0
   go_wp2_with fail
   refine (CA.out _ HB.out).mono ?_
   rintro e y1 ⟨rfl, hY1⟩
   have q1 := q0.trans (hY1.mono q0.size)
   clear r0
   go_upto_region 4 with (fail)
   have sF : Blk 52 (y1.alloc (.cells #[.int .i64 x.t, .int .i64 x.k, .string x.d, j0 x.j, j1 x.j, j2 x.j, j3 x.j, j4 x.j, j5 x.j, j6 x.j, j7 x.j, j8 x.j, j9 x.j, j10 x.j] 52)) y1.heap.size [.int .i64 x.t, .int .i64 x.k, .string x.d, j0 x.j, j1 x.j, j2 x.j, j3 x.j, j4 x.j, j5 x.j, j6 x.j, j7 x.j, j8 x.j, j9 x.j, j10 x.j] := heap_alloc_new y1 (.cells #[.int .i64 x.t, .int .i64 x.k, .string x.d, j0 x.j, j1 x.j, j2 x.j, j3 x.j, j4 x.j, j5 x.j, j6 x.j, j7 x.j, j8 x.j, j9 x.j, j10 x.j] 52)
   have bF := Below.alloc (HB.out.trans (q1.mono HB.out.size)) (Below.size (HB.out.trans (q1.mono HB.out.size))) (.cells #[.int .i64 x.t, .int .i64 x.k, .string x.d, j0 x.j, j1 x.j, j2 x.j, j3 x.j, j4 x.j, j5 x.j, j6 x.j, j7 x.j, j8 x.j, j9 x.j, j10 x.j] 52)
   generalize (y1.alloc (.cells #[.int .i64 x.t, .int .i64 x.k, .string x.d, j0 x.j, j1 x.j, j2 x.j, j3 x.j, j4 x.j, j5 x.j, j6 x.j, j7 x.j, j8 x.j, j9 x.j, j10 x.j] 52)) = wf at *
   have e0 := (blk14 sF).1
   clear sF
   go_wp2_with fail
   (try simp only [Exit.inBlock, Exit.then])
   refine bodyPost_ret (resT2 Tryz.results106 rfl rfl) rfl ?_
   exact ⟨rfl, bF⟩
end Go.Proofs.YtegnfkbmlalkeaaGreat.enti
namespace Go.Proofs.YtegnfkbmlalkeaaGreat.ref13
open Go Go.RowKit Go.Proofs.YtegnfkbmlalkeaaGreat.kit Go.Proofs.YtegnfkbmlalkeaaGreat.nums Go.Proofs.YtegnfkbmlalkeaaGreat.cf Go.Proofs.YtegnfkbmlalkeaaGreat.lg Go.Proofs.YtegnfkbmlalkeaaGreat.cr Go.Proofs.YtegnfkbmlalkeaaGreat.se
set_option linter.unusedVariables false
theorem step_val {P : Program} {w : World} {ops : Array Oper} {o : Oper} {a : Act} {K : Act → World → Prop} {Q : Exit → Act → World → Prop} {E : Prop} {X : Value} (hgd : o.guard = none) (hr : (execOp a.eval o).run P w = .ok (.value X) w) (hK : K (a.put o.dst X) w) :
   if Region.wanted o (yielded ops a.tmps) = true then Oper.wp P o a w K Q else E := by
 have hw : Region.wanted o (yielded ops a.tmps) = true := by simp [Region.wanted, hgd]
 rw [if_pos hw]
 unfold Oper.wp
 rw [hr]
 exact hK
end Go.Proofs.YtegnfkbmlalkeaaGreat.ref13
namespace Go.Proofs.YtegnfkbmlalkeaaGreat.ref13
open Go Go.RowKit Go.Proofs.YtegnfkbmlalkeaaGreat.kit Go.Proofs.YtegnfkbmlalkeaaGreat.nums Go.Proofs.YtegnfkbmlalkeaaGreat.cf Go.Proofs.YtegnfkbmlalkeaaGreat.lg Go.Proofs.YtegnfkbmlalkeaaGreat.cr Go.Proofs.YtegnfkbmlalkeaaGreat.se
set_option linter.unusedVariables false
theorem has_lt (c : CoL) (i : Int) : ∀ k, hasTo c i k < 65536
 | 0 => by show 0 < _; omega
 | k + 1 => by
   unfold hasTo
   split
   · exact withF_lt _ (has_lt c i k)
   · exact has_lt c i k
end Go.Proofs.YtegnfkbmlalkeaaGreat.ref13
namespace Go.Proofs.YtegnfkbmlalkeaaGreat.ref13
open Go Go.RowKit Go.Proofs.YtegnfkbmlalkeaaGreat.kit Go.Proofs.YtegnfkbmlalkeaaGreat.nums Go.Proofs.YtegnfkbmlalkeaaGreat.cf Go.Proofs.YtegnfkbmlalkeaaGreat.lg Go.Proofs.YtegnfkbmlalkeaaGreat.cr Go.Proofs.YtegnfkbmlalkeaaGreat.se
set_option linter.unusedVariables false
def couN : Nat → CoL → CoL
 | 0, d => endC (cntC d)
 | f + 1, d => if atC (cntC d).lg ≤ (cntC d).cm ∧ (conC (cntC d)).two = true then couN f (pushC (cntC d) (fiE (conC (cntC d)))) else endC (cntC d)
theorem couC_N (c : CoL) : couC c = couN 1 c := rfl
theorem seek_top (p : Int → Bool) (lo : Int) (k : Nat) (h : p (lo + ((k + 1 : Nat) : Int)) = false) : seekF p lo (k + 1) = seekF p lo k := by
 show (if p (lo + ((k + 1 : Nat) : Int)) = true then _ else _) = _
 rw [h]; rfl
theorem seek_hit (p : Int → Bool) (lo : Int) (k : Nat) (h : p (lo + ((k + 1 : Nat) : Int)) = true) : seekF p lo (k + 1) = lo + ((k + 1 : Nat) : Int) := by
 show (if p (lo + ((k + 1 : Nat) : Int)) = true then _ else _) = _
 rw [h]; rfl
theorem seek_le (p : Int → Bool) (lo : Int) : ∀ k, lo ≤ seekF p lo k ∧ seekF p lo k ≤ lo + k
 | 0 => by simp [seekF]
 | k + 1 => by
   have := seek_le p lo k
   unfold seekF
   split <;> omega
theorem conC_push (d : CoL) (x : EnL) : conC (pushC d x) = if x.k = 2 then x.j else conC d := by
 unfold conC pushC pushF confF
 rw [List.foldl_append]; rfl
theorem lastF_push (d : CoL) (x : EnL) : lastF (pushC d x).lg = lastF d.lg + 1 := by unfold lastF pushC pushF; simp; omega
theorem good_fin {d : CoL} {N : Nat} (h : GoodN d N) (hN : N ≤ 900000) (ht : (conC d).two = true) : GoodN (pushC d (fiE (conC d))) (N + 1) ∧ (conC (pushC d (fiE (conC d)))).two = false := by
 obtain ⟨h1, h2, h3, h4, h5, h6, h7, h8⟩ := h
 have hc : conC (pushC d (fiE (conC d))) = finalJ (conC d) := by rw [conC_push]; rfl
 have hl := lastF_push d (fiE (conC d))
 have hlen : (pushC d (fiE (conC d))).lg.es.length = d.lg.es.length + 1 := by show (d.lg.es ++ [_]).length = _; simp
 have hf : finalJ (conC d) = ⟨(conC d).b, zeroC, false⟩ := by unfold finalJ; rw [ht]; rfl
 refine ⟨⟨⟨h1.1, h1.2.1, by rw [hlen]; omega⟩, by rw [hlen]; omega, h3, h4, by rw [hc]; exact final_ok h5, ?_, h7, by rw [hl]; exact Int.le_trans h8 (by omega)⟩, by rw [hc, hf]⟩
 rw [hc, hf]
 unfold mayJ
 rw [mayJ_b h6 ht]; rfl
theorem good_cnt {d : CoL} {N : Nat} (h : GoodN d N) : GoodN (cntC d) N := by
 obtain ⟨h1, h2, h3, h4, h5, h6, h7, h8⟩ := h
 have hs := seek_le (cmtP d) d.cm (lastF d.lg - d.cm).toNat
 exact ⟨h1, h2, h3, h4, h5, h6, Int.le_trans h7 hs.1, by show seekF _ _ _ ≤ lastF d.lg; omega⟩
end Go.Proofs.YtegnfkbmlalkeaaGreat.ref13
namespace Go.Proofs.YtegnfkbmlalkeaaGreat.kit
open Go Go.RowKit Go.Proofs.YtegnfkbmlalkeaaGreat.kit Go.Proofs.YtegnfkbmlalkeaaGreat.nums Go.Proofs.YtegnfkbmlalkeaaGreat.cf Go.Proofs.YtegnfkbmlalkeaaGreat.lg Go.Proofs.YtegnfkbmlalkeaaGreat.cr
set_option linter.unusedVariables false
def RdY (w : World) (g : Nat) (o : Rw) (A : Option Addr) (n : Nat) (xs : List Value) : Prop := RdV w w.heap.size A n xs ∧ ∀ b off, 0 < n → A = some ⟨b, off, none⟩ → Ap g o b
section
variable {w w' : World} {g n : Nat} {o o' : Rw} {A : Option Addr} {xs : List Value}
theorem RdV.block {B : Nat} (h : RdV w B A n xs) {b off : Nat} (hn : 0 < n) (e : A = some ⟨b, off, none⟩) : b < B := by
 obtain ⟨b', off', e', hlt, _⟩ := h.2 hn
 rw [e] at e'
 have := Option.some.inj e'
 simp only [Addr.mk.injEq] at this
 omega
theorem RdV.same {B : Nat} (h : RdV w B A n xs) (hb : ∀ b off, 0 < n → A = some ⟨b, off, none⟩ → w'.heap[b]? = w.heap[b]?) : RdV w' B A n xs := ⟨h.1, fun hn => by
 obtain ⟨b, off, e, hlt, hc⟩ := h.2 hn
 refine ⟨b, off, e, hlt, fun j hj => ?_⟩
 have h1 := World.cell?_of_block (a := ⟨b, off + j, none⟩) (hb b off hn e)
 rw [h1]; exact hc j hj⟩
theorem RdY.below (h : RdY w g o A n xs) (hb : Below w.heap.size w w') : RdY w' g o A n xs := ⟨h.1.on hb hb.size, h.2⟩
theorem RdY.put (h : RdY w g o A n xs) (hp : Put w w' g) : RdY w' g o A n xs :=
 ⟨(h.1.same (fun b off h0 e => hp.other b (h.2 b off h0 e).1)).more (by rw [hp.size]; exact Nat.le_refl _), h.2⟩
theorem RdY.of_own {E : TypeId} {base c : Nat} (h : OwnV E w base (.slice A n c) xs) (hn : xs.length = n) (hg : g < base) (ho : ∀ k, o.row = some k → k < base) : RdY w g o A n xs := by
 obtain ⟨A', c', e, _, _, hR⟩ := h.slice
 rw [hn] at e hR
 injection e with e1 _ _
 subst e1
 exact ⟨hR, fun b off h0 e => by
   have hb := (h.lt b (by rw [e]; rfl)).1
   exact ⟨by omega, fun e2 => by have := ho b e2; omega⟩⟩
end
end Go.Proofs.YtegnfkbmlalkeaaGreat.kit
namespace Go.Proofs.YtegnfkbmlalkeaaGreat.ref13
open Go Go.RowKit Go.Proofs.YtegnfkbmlalkeaaGreat.kit Go.Proofs.YtegnfkbmlalkeaaGreat.nums Go.Proofs.YtegnfkbmlalkeaaGreat.cf Go.Proofs.YtegnfkbmlalkeaaGreat.lg Go.Proofs.YtegnfkbmlalkeaaGreat.cr Go.Proofs.YtegnfkbmlalkeaaGreat.se
set_option linter.unusedVariables false
theorem endC_nx (d : CoL) : (endC d).nx = d.nx := by unfold endC; split <;> (try split) <;> rfl
theorem endC_lg (d : CoL) : (endC d).lg = d.lg := by unfold endC; split <;> (try split) <;> rfl
theorem endC_id (d : CoL) : (endC d).id = d.id := by unfold endC; split <;> (try split) <;> rfl
theorem endC_cm (d : CoL) : (endC d).cm = d.cm := by unfold endC; split <;> (try split) <;> rfl
theorem good_end {d : CoL} {N : Nat} (h : GoodN d N) : GoodN (endC d) N := by
 unfold GoodN conC
 rw [endC_lg, endC_id, endC_cm]; exact h
theorem good_more {d : CoL} {N M : Nat} (h : GoodN d N) (hm : N ≤ M) : GoodN d M := ⟨h.1, Nat.le_trans h.2.1 hm, h.2.2⟩
theorem good_cou {c : CoL} {N : Nat} (h : GoodN c N) (hN : N ≤ 900000) : GoodN (couC c) (N + 1) := by
 unfold couC
 dsimp only
 split
 · rename_i hc
   exact good_end (good_cnt (good_fin (good_cnt h) hN hc.2).1)
 · exact good_more (good_end (good_cnt h)) (Nat.le_succ _)
theorem couC_nx (c : CoL) : (couC c).nx = c.nx := by
 unfold couC
 dsimp only
 split
 · rw [endC_nx]; rfl
 · rw [endC_nx]; rfl
theorem upd_lt (f : Nat → Int) (k : Nat) (v : Int) : upd (fun i => if i < k then v else f i) k v = fun i => if i < k + 1 then v else f i := by
 funext i
 show (if i = k then v else if i < k then v else f i) = _
 by_cases h1 : i = k
 · rw [if_pos h1, if_pos (by omega)]
 · by_cases h2 : i < k
   · rw [if_neg h1, if_pos h2, if_pos (by omega)]
   · rw [if_neg h1, if_neg h2, if_neg (by omega)]
def leadA (c : CoL) : CoL := { c with ro := 2, le := c.id, wa := 0, he := 0, nx := fun _ => lastF c.lg + 1, mt := z10 }
theorem good_lead {c : CoL} (h : GoodN c 700000) : GoodN (pushC (leadA c) zE) 700001 := by
 obtain ⟨h1, h2, h3, h4, h5, h6, h7, h8⟩ := h
 have hc : conC (pushC (leadA c) zE) = conC c := by rw [conC_push]; rfl
 have hl := lastF_push (leadA c) zE
 have hlen : (pushC (leadA c) zE).lg.es.length = c.lg.es.length + 1 := by show (c.lg.es ++ [_]).length = _; simp
 exact ⟨⟨h1.1, h1.2.1, by rw [hlen]; omega⟩, by rw [hlen]; omega, h3, h4, by rw [hc]; exact h5, by rw [hc]; exact h6, h7, by rw [hl]; exact Int.le_trans h8 (by show lastF c.lg ≤ lastF c.lg + 1; omega)⟩
end Go.Proofs.YtegnfkbmlalkeaaGreat.ref13
namespace Go.Proofs.YtegnfkbmlalkeaaGreat.ref13
open Go Go.RowKit Go.Proofs.YtegnfkbmlalkeaaGreat.kit Go.Proofs.YtegnfkbmlalkeaaGreat.nums Go.Proofs.YtegnfkbmlalkeaaGreat.cf Go.Proofs.YtegnfkbmlalkeaaGreat.lg Go.Proofs.YtegnfkbmlalkeaaGreat.cr Go.Proofs.YtegnfkbmlalkeaaGreat.se
set_option linter.unusedVariables false
def RdMs (w : World) (v : Value) (ms : List MsL) : Prop := ∃ xs : List (MsL × Value), OwnM w 0 v xs ∧ xs.map Prod.fst = ms ∧ ∀ x ∈ xs, ∃ A n p, x.2 = .slice A n p ∧ n ≤ p ∧ RdE w w.heap.size A n x.1.es
theorem OwnM.more {w : World} {base base' : Nat} {v : Value} {xs : List (MsL × Value)} (h : OwnM w base v xs) (hb : base' ≤ base) : OwnM w base' v xs := by
 refine ⟨h.1, ?_⟩
 rcases h.2 with hn | ⟨q, cap, cur, rfl, hbq, r⟩
 · exact .inl hn
 · exact .inr ⟨q, cap, cur, rfl, Nat.le_trans hb hbq, r⟩
theorem RdMs.below {w w' : World} {v : Value} {ms : List MsL} (h : RdMs w v ms) (hb : Below w.heap.size w w') : RdMs w' v ms := by
 obtain ⟨xs, h4, h6, h7⟩ := h
 exact ⟨xs, h4.same (fun k _ hk => hb.block k hk), h6, fun x hx => by
   obtain ⟨A5, n5, p5, e5, h8, h9⟩ := h7 x hx
   exact ⟨A5, n5, p5, e5, h8, h9.on hb hb.size⟩⟩
theorem RdMs.nil (w : World) : RdMs w (.slice none 0 0) [] := ⟨[], OwnM.nil w 0, rfl, fun x hx => by cases hx⟩
end Go.Proofs.YtegnfkbmlalkeaaGreat.ref13
namespace Go.Proofs.YtegnfkbmlalkeaaGreat.ref13
open Go Go.RowKit Go.Proofs.YtegnfkbmlalkeaaGreat.kit Go.Proofs.YtegnfkbmlalkeaaGreat.nums Go.Proofs.YtegnfkbmlalkeaaGreat.cf Go.Proofs.YtegnfkbmlalkeaaGreat.lg Go.Proofs.YtegnfkbmlalkeaaGreat.cr Go.Proofs.YtegnfkbmlalkeaaGreat.se
set_option linter.unusedVariables false
theorem rb_lss {w : World} {a : Act} {o : Oper} {p q : Operand} {x y : Int} {b : Bool} (ho : o.op = .binOp .lss 3 p q 3) (hp : a.eval p = .int .i64 x) (hq : a.eval q = .int .i64 y) (hb : decide (x < y) = b) : (execOp a.eval o).run Tryz.prog w = .ok (.value (.bool b)) w := by
 subst hb
 unfold execOp
 simp only [ho, hp, hq]
 go_simp
theorem rb_geq {w : World} {a : Act} {o : Oper} {p q : Operand} {x y : Int} {b : Bool} (ho : o.op = .binOp .geq 3 p q 3) (hp : a.eval p = .int .i64 x) (hq : a.eval q = .int .i64 y) (hb : decide (x ≥ y) = b) : (execOp a.eval o).run Tryz.prog w = .ok (.value (.bool b)) w := by
 subst hb
 unfold execOp
 simp only [ho, hp, hq]
 go_simp
end Go.Proofs.YtegnfkbmlalkeaaGreat.ref13
namespace Go.Proofs.YtegnfkbmlalkeaaGreat.ref13
open Go Go.RowKit Go.Proofs.YtegnfkbmlalkeaaGreat.kit Go.Proofs.YtegnfkbmlalkeaaGreat.nums Go.Proofs.YtegnfkbmlalkeaaGreat.cf Go.Proofs.YtegnfkbmlalkeaaGreat.lg Go.Proofs.YtegnfkbmlalkeaaGreat.cr Go.Proofs.YtegnfkbmlalkeaaGreat.se
set_option linter.unusedVariables false
def elB (e : EnL) : Bool := !(e.k == 2) || mayJ e.j
theorem mayG_f {l : LgL} (h : lg.mayF l = false) : mayG l = false := by unfold mayG; rw [h]; rfl
theorem mayG_j {l : LgL} (h : lg.mayF l = true) (hj : mayJ l.j = false) : mayG l = false := by unfold mayG; rw [h, hj]; rfl
theorem mayG_bad {l : LgL} {i : Nat} {x : EnL} (hx : l.es[i]? = some x) (hb : elB x = false) : mayG l = false := by
 unfold mayG; rw [List.all_eq_false.2 ⟨x, List.mem_of_getElem? hx, by show ¬ elB x = true; rw [hb]; simp⟩, Bool.and_false, Bool.and_false]
theorem mayG_good {l : LgL} (h : lg.mayF l = true) (hj : mayJ l.j = true) (hg : ∀ (j : Nat) (x : EnL), l.es[j]? = some x → elB x = true) : mayG l = true := by
 unfold mayG; rw [h, hj, List.all_eq_true.2 (fun x hx => by obtain ⟨j, hj⟩ := List.getElem?_of_mem hx; exact hg j x hj)]; rfl
theorem at_jA {w : World} {b o : Nat} {x : EnL} (h : At w b o (enC x)) : At w b (o + 3) (jC x.j) := fun i u hu => by
 have hi : i < 11 := (List.getElem?_eq_some_iff.1 hu).1
 rw [show o + 3 + i = o + (3 + i) by omega]
 refine h (3 + i) u ?_
 rw [← hu]
 match i, hi with
 | 0, _ => rfl
 | 1, _ => rfl
 | 2, _ => rfl
 | 3, _ => rfl
 | 4, _ => rfl
 | 5, _ => rfl
 | 6, _ => rfl
 | 7, _ => rfl
 | 8, _ => rfl
 | 9, _ => rfl
 | 10, _ => rfl
set_option maxHeartbeats 4000000 in
set_option maxRecDepth 10000 in
theorem maylog_any (l : LgL) (A : Option Addr) (n p : Nat) (w : World) (B : Nat) (hR0 : RdE w B A n l.es) (hB : B ≤ w.heap.size) (hn : n ≤ 1000000000) (hj : l.j.ok) (hok : ∀ x ∈ l.es, x.j.ok) : Calls Tryz.prog 54 #[lgV l (.slice A n p)] w fun e w' => e = .returned (.bool (mayG l)) ∧ Below w.heap.size w w' := by
 have hR := hR0.more hB
 clear hR0 hB
 have HJ := Lib.hid hj
 have HOk := Lib.hid hok
 have hn2 := Lib.hid hn
 have R := hR
 have hlen := Lib.hid hR.len
 clear hj hok hR
 go_enter Tryz.func54, Tryz.ntmps54
 go_wp2_with (refine box_L rfl _ rfl l (.slice A n p) rfl ?_)
 intro y1 kL e1 s1
 clear s1
 have HB := e1
 replace R := R.on e1 e1.size
 clear e1
 obtain ⟨mv, hmv⟩ : ∃ z, lg.mayF l = z := ⟨_, rfl⟩
 replace hmv := Lib.hid hmv
 obtain ⟨mj, hmj⟩ : ∃ z, mayJ l.j = z := ⟨_, rfl⟩
 replace hmj := Lib.hid hmj
 go_wp2_with (first | refine lo_Lj kL ?_ | refine lo_lJj kL ?_)
 have CC := ref12.rmay_any l A n p y1 y1.heap.size R (Nat.le_refl _) (by have := hn2.out; omega)
 rw [hmv.out] at CC
 refine (CC).mono ?_
 rintro e y2 ⟨rfl, hY⟩
 replace HB := bt HB hY
 replace kL := kL.b hY
 replace R := R.on hY hY.size
 clear hY
 clear CC
 rcases mv with _ | _
 · skip
   go_wp2_with fail
   go_ret
   rw [mayG_f hmv.out]
   exact ⟨rfl, HB⟩
 go_wp2_with (first | refine lo_Lj kL ?_ | refine lo_lJj kL ?_)
 have CC := ref10.mayJ_any l.j y2 HJ.out
 rw [hmj.out] at CC
 refine (CC).mono ?_
 rintro e y3 ⟨rfl, hY⟩
 replace HB := bt HB hY
 replace kL := kL.b hY
 replace R := R.on hY hY.size
 clear hY
 clear CC
 rcases mj with _ | _
 · skip
   go_wp2_with fail
   go_ret
   rw [mayG_j hmv.out hmj.out]
   exact ⟨rfl, HB⟩
 have BkL := Lib.hid kL
 clear kL
 have BR := Lib.hid R
 clear R
 have BH := Lib.hid HB
 clear HB
 go_wp2_with fail
 go_loopw [3] (fun iv wr => ∃ i : Nat, i ≤ n ∧ iv = .int .i64 (i : Int) ∧ Hid (Below y3.heap.size y3 wr) ∧ Hid (∀ (j : Nat) (x : EnL), j < i → l.es[j]? = some x → elB x = true)) (fun iv _ => n - (intOf iv).toNat)
 case atStart => exact ⟨0, by omega, rfl, Lib.hid (Below.refl _ _), Lib.hid (fun j x h => absurd h (by omega))⟩
 case round =>
   obtain ⟨i, hi, rfl, HY, HG⟩ := hrel
   by_cases hin : i < n
   · skip
     have kL := BkL.out.below HY.out BkL.out.lt
     have R := BR.out.on HY.out HY.out.size
     have HB := HY.out
     have ci : (i : Int) < (n : Int) := by omega
     have c0i : (0 : Int) ≤ (i : Int) := by omega
     have wi : IntKind.i64.wrap ((i : Int) + 1) = ((i + 1 : Nat) : Int) := by have := hn2.out; rw [wrap_sm (by omega) (by omega)]; omega
     have cL : wr.cell? ⟨w.heap.size, 13, none⟩ = some (.slice A n p) := kL.cell 13
     obtain ⟨bb, oo, x, hA9, hlt9, hx, hA⟩ := R.at_ hin
     subst hA9
     have hxo := Lib.hid (HOk.out x (List.mem_of_getElem? hx))
     replace hx := Lib.hid hx
     obtain ⟨xk, hxk⟩ : ∃ q, x.k = q := ⟨_, rfl⟩
     replace hxk := Lib.hid hxk
     have ck1 : wr.cell? ⟨bb, oo + i * 14 + 1, none⟩ = some (.int .i64 xk) := by rw [← hxk.out]; exact hA 1 _ rfl
     by_cases hk2 : xk = 2
     · skip
       have hb2 : (xk == 2) = true := by simp [hk2]
       replace hk2 := Lib.hid hk2
       obtain ⟨xj, hxj⟩ : ∃ q, mayJ x.j = q := ⟨_, rfl⟩
       replace hxj := Lib.hid hxj
       have hAj := at_jA hA
       go_wp2_with (first | refine lo_Lj kL ?_ | refine lo_lJj kL ?_ | refine wpList_ldAt _ rfl rfl (cells := jC x.j) rfl hAj (aggJ _) (sizeJ _) ?_)
       clear cL ck1 hA hAj
       have CC := ref10.mayJ_any x.j wr hxo.out
       rw [hxj.out] at CC
       refine (CC).mono ?_
       rintro e y51 ⟨rfl, hY⟩
       replace HB := bt HB hY
       replace kL := kL.b hY
       replace R := R.on hY hY.size
       clear hY
       clear CC
       rcases xj with _ | _
       · skip
         have hbad : elB x = false := by unfold elB; rw [hxj.out, hxk.out, hk2.out]; simp
         have hTB := Lib.hid (mayG_bad hx.out hbad)
         clear hbad
         go_wp2_with fail
         go_ret
         rw [hTB.out]
         exact ⟨rfl, BH.out.trans (HB.mono BH.out.size)⟩
       · skip
         have hgood : Hid (elB x = true) := by show _ = _; unfold elB; rw [hxj.out]; simp
         go_wp2_with fail
         go_roundw
         case rel => exact ⟨i + 1, by omega, rfl, Lib.hid HB, Lib.hid (fun j z hj hz => by
           rcases Nat.lt_succ_iff_lt_or_eq.1 hj with h | rfl
           · exact HG.out j z h hz
           · rw [hx.out] at hz; obtain rfl := Option.some.inj hz; exact hgood.out)⟩
         case measure => simp only [intOf]; omega
     · skip
       have hb2 : (xk == 2) = false := by simp [hk2]
       replace hk2 := Lib.hid hk2
       have hgood : Hid (elB x = true) := by show _ = _; unfold elB; rw [hxk.out]; have := hk2.out; simp [this]
       go_wp2_with fail
       go_roundw
       case rel => exact ⟨i + 1, by omega, rfl, Lib.hid HB, Lib.hid (fun j z hj hz => by
         rcases Nat.lt_succ_iff_lt_or_eq.1 hj with h | rfl
         · exact HG.out j z h hz
         · rw [hx.out] at hz; obtain rfl := Option.some.inj hz; exact hgood.out)⟩
       case measure => simp only [intOf]; omega
   · skip
     have kL := BkL.out.below HY.out BkL.out.lt
     have R := BR.out.on HY.out HY.out.size
     have HB := HY.out
     obtain rfl : i = n := by omega
     have ci : ¬ ((i : Int) < (i : Int)) := by omega
     have cL : wr.cell? ⟨w.heap.size, 13, none⟩ = some (.slice A i p) := kL.cell 13
     have hTG := Lib.hid (mayG_good hmv.out hmj.out (fun j x hx => HG.out j x (by have := (List.getElem?_eq_some_iff.1 hx).1; have := hlen.out; omega) hx))
     clear HG
     go_wp2_with fail
     go_ret
     rw [hTG.out]
     exact ⟨rfl, BH.out.trans (HB.mono BH.out.size)⟩
end Go.Proofs.YtegnfkbmlalkeaaGreat.ref13
namespace Go.Proofs.YtegnfkbmlalkeaaGreat.ref12
open Go Go.RowKit Go.Proofs.YtegnfkbmlalkeaaGreat.kit Go.Proofs.YtegnfkbmlalkeaaGreat.nums Go.Proofs.YtegnfkbmlalkeaaGreat.cf Go.Proofs.YtegnfkbmlalkeaaGreat.lg
set_option linter.unusedVariables false
set_option maxHeartbeats 1000000 in
theorem rlt_any (L : LgL) (A : Option Addr) (n c : Nat) (w : World) (B : Nat) (hR : RdE w B A n L.es) (hB : B ≤ w.heap.size) (hc : n ≤ c) (hf : Fit L) : Calls Tryz.prog 56 #[lgV L (.slice A n c)] w fun e w' => e = .returned (.int .i64 (termF L (lastF L)).1) ∧ Below w.heap.size w w' := by
 have HR := Lib.hid hR
 have hl := hR.1
 have HF := Lib.hid hf
 have hBs := Lib.hid hB
 have hlast : lastF L = L.b + n := by unfold lastF; rw [hl]
 rw [hlast]
 clear hR hB hl hf
 unfold lgV at *
 obtain ⟨b, t, j, es⟩ := L
 dsimp only at *
 generalize hTT : termF ⟨b, t, j, es⟩ (b + (n : Int)) = TT at *
 obtain ⟨tv, tb⟩ := TT
 dsimp only
 have k0 : Blk 30 (w.alloc (.cells #[.int .i64 b, .int .i64 t, j0 j, j1 j, j2 j, j3 j, j4 j, j5 j, j6 j, j7 j, j8 j, j9 j, j10 j, .slice A n c] 30)) w.heap.size [.int .i64 b, .int .i64 t, j0 j, j1 j, j2 j, j3 j, j4 j, j5 j, j6 j, j7 j, j8 j, j9 j, j10 j, .slice A n c] := (heap_alloc_new w (.cells #[.int .i64 b, .int .i64 t, j0 j, j1 j, j2 j, j3 j, j4 j, j5 j, j6 j, j7 j, j8 j, j9 j, j10 j, .slice A n c] 30))
 have hB : Below w.heap.size w (w.alloc (.cells #[.int .i64 b, .int .i64 t, j0 j, j1 j, j2 j, j3 j, j4 j, j5 j, j6 j, j7 j, j8 j, j9 j, j10 j, .slice A n c] 30)) := ((Below.refl w.heap.size w).alloc (by first | exact Nat.le_refl _ | (simp; done) | (simp; omega)) (.cells #[.int .i64 b, .int .i64 t, j0 j, j1 j, j2 j, j3 j, j4 j, j5 j, j6 j, j7 j, j8 j, j9 j, j10 j, .slice A n c] 30))
 have HB := Lib.hid hB
 have HS : Hid (∀ wq, Below (w.alloc (.cells #[.int .i64 b, .int .i64 t, j0 j, j1 j, j2 j, j3 j, j4 j, j5 j, j6 j, j7 j, j8 j, j9 j, j10 j, .slice A n c] 30)).heap.size (w.alloc (.cells #[.int .i64 b, .int .i64 t, j0 j, j1 j, j2 j, j3 j, j4 j, j5 j, j6 j, j7 j, j8 j, j9 j, j10 j, .slice A n c] 30)) wq → (wq.cell? ⟨w.heap.size, 0, none⟩ = some (.int .i64 b) ∧ wq.cell? ⟨w.heap.size, 1, none⟩ = some (.int .i64 t) ∧ wq.cell? ⟨w.heap.size, 2, none⟩ = some (j0 j) ∧ wq.cell? ⟨w.heap.size, 3, none⟩ = some (j1 j) ∧ wq.cell? ⟨w.heap.size, 4, none⟩ = some (j2 j) ∧ wq.cell? ⟨w.heap.size, 5, none⟩ = some (j3 j) ∧ wq.cell? ⟨w.heap.size, 6, none⟩ = some (j4 j) ∧ wq.cell? ⟨w.heap.size, 7, none⟩ = some (j5 j) ∧ wq.cell? ⟨w.heap.size, 8, none⟩ = some (j6 j) ∧ wq.cell? ⟨w.heap.size, 9, none⟩ = some (j7 j) ∧ wq.cell? ⟨w.heap.size, 10, none⟩ = some (j8 j) ∧ wq.cell? ⟨w.heap.size, 11, none⟩ = some (j9 j) ∧ wq.cell? ⟨w.heap.size, 12, none⟩ = some (j10 j) ∧ wq.cell? ⟨w.heap.size, 13, none⟩ = some (.slice A n c))) := fun wq hq => blk14 (k0.below hq k0.lt)
 have q0 := Below.refl (w.alloc (.cells #[.int .i64 b, .int .i64 t, j0 j, j1 j, j2 j, j3 j, j4 j, j5 j, j6 j, j7 j, j8 j, j9 j, j10 j, .slice A n c] 30)).heap.size (w.alloc (.cells #[.int .i64 b, .int .i64 t, j0 j, j1 j, j2 j, j3 j, j4 j, j5 j, j6 j, j7 j, j8 j, j9 j, j10 j, .slice A n c] 30))
 have K0 := Lib.hid k0
 clear hB k0
 go_enter Tryz.func56, Tryz.ntmps56
 go_upto_region 1 with (fail)
 generalize (w.alloc (.cells #[.int .i64 b, .int .i64 t, j0 j, j1 j, j2 j, j3 j, j4 j, j5 j, j6 j, j7 j, j8 j, j9 j, j10 j, .slice A n c] 30)) = w1 at *
 have HR1 := Lib.hid (HR.out.on (HB.out.mono hBs.out) (Nat.le_trans hBs.out HB.out.size))
 have CL := Lib.hid (fun w' (hb : Below w1.heap.size w1 w') => rlast_any ⟨b, t, j, es⟩ A n c w' HR1.out.1 HF.out)
 have CT := Lib.hid (fun w' (hb : Below w1.heap.size w1 w') => rterm_any ⟨b, t, j, es⟩ A n c (b + (n : Int)) w' w1.heap.size (HR1.out.below hb) hb.size hc HF.out)
 unfold lgV at CL CT
 dsimp only at CL CT
 rw [hlast] at CL
 rw [hTT] at CT
 clear hTT hlast
 have r0 := HS.out _ q0
 have q1 := q0.drew
 refine wp_region_held_drew (S := fun wq => (wq.cell? ⟨w.heap.size, 0, none⟩ = some (.int .i64 b) ∧ wq.cell? ⟨w.heap.size, 1, none⟩ = some (.int .i64 t) ∧ wq.cell? ⟨w.heap.size, 2, none⟩ = some (j0 j) ∧ wq.cell? ⟨w.heap.size, 3, none⟩ = some (j1 j) ∧ wq.cell? ⟨w.heap.size, 4, none⟩ = some (j2 j) ∧ wq.cell? ⟨w.heap.size, 5, none⟩ = some (j3 j) ∧ wq.cell? ⟨w.heap.size, 6, none⟩ = some (j4 j) ∧ wq.cell? ⟨w.heap.size, 7, none⟩ = some (j5 j) ∧ wq.cell? ⟨w.heap.size, 8, none⟩ = some (j6 j) ∧ wq.cell? ⟨w.heap.size, 9, none⟩ = some (j7 j) ∧ wq.cell? ⟨w.heap.size, 10, none⟩ = some (j8 j) ∧ wq.cell? ⟨w.heap.size, 11, none⟩ = some (j9 j) ∧ wq.cell? ⟨w.heap.size, 12, none⟩ = some (j10 j) ∧ wq.cell? ⟨w.heap.size, 13, none⟩ = some (.slice A n c))) (by kernel_rfl) ?s_lrlt (fun hHeld => ?_)
 case s_lrlt => exact HS.out _ q1
 refine tj 0 _ ?_
 try simp only [Act.put, ka, kb, kc]
 refine tj 1 _ ?_
 try simp only [Act.put, ka, kb, kc]
 refine rr [2] ?_
 refine rc (fun KQ hKQ => ?_) AllReadyH.nil
 go_simp
 refine (CL.out _ q1).mono ?_
 rintro e y2 ⟨rfl, hY2⟩
 have q2 := q1.trans (hY2.mono q1.size)
 have r2 := HS.out _ q2
 go_wp2_with fail
 refine hKQ.out _ _ (r2) (fun _ => ?_)
 clear hKQ KQ
 try simp only [Act.put, ka, kb, kc]
 refine rr [3] ?_
 refine rc (fun KQ hKQ => ?_) AllReadyH.nil
 go_simp
 refine (CT.out _ q2).mono ?_
 rintro e y3 ⟨rfl, hY3⟩
 have q3 := q2.trans (hY3.mono q2.size)
 have r3 := HS.out _ q3
 go_wp2_with fail
 refine hKQ.out _ _ (r3) (fun _ => ?_)
 clear hKQ KQ
 try simp only [Act.put, ka, kb, kc]
 refine tj 4 _ ?_
 try simp only [Act.put, ka, kb, kc]
 refine tj 5 _ ?_
 try simp only [Act.put, ka, kb, kc]
 refine tj 6 _ ?_
 try simp only [Act.put, ka, kb, kc]
 refine tj 7 _ ?_
 try simp only [Act.put, ka, kb, kc]
 refine tj 8 _ ?_
 try simp only [Act.put, ka, kb, kc]
 refine wpAnyH_done (by kernel_rfl) ?_ _
 go_wp2_with fail
 go_ret
 exact ⟨rfl, HB.out.trans (q3.mono HB.out.size)⟩
end Go.Proofs.YtegnfkbmlalkeaaGreat.ref12
namespace Go.Proofs.YtegnfkbmlalkeaaGreat.ref13
open Go Go.RowKit Go.Proofs.YtegnfkbmlalkeaaGreat.kit Go.Proofs.YtegnfkbmlalkeaaGreat.nums Go.Proofs.YtegnfkbmlalkeaaGreat.cf Go.Proofs.YtegnfkbmlalkeaaGreat.lg Go.Proofs.YtegnfkbmlalkeaaGreat.cr Go.Proofs.YtegnfkbmlalkeaaGreat.se
set_option linter.unusedVariables false
def hearC (c : CoL) (j : Nat) : CoL := { c with he := withF c.he (j : Int) }
def nackV (c : CoL) (j : Nat) (i : Int) : Int := max (min (i + 1) (lastF c.lg + 1)) (c.mt j + 1)
def nackC (c : CoL) (j : Nat) (i : Int) : CoL := { hearC c j with nx := upd c.nx j (nackV c j i) }
def ackV (c : CoL) (j : Nat) (i : Int) : Int := max (c.mt j) (min i (lastF c.lg))
def ackM (c : CoL) (j : Nat) (i : Int) : CoL := { hearC c j with mt := upd c.mt j (ackV c j i) }
def ackC (c : CoL) (j : Nat) (i : Int) : CoL := { ackM c j i with nx := upd c.nx j (ackV c j i + 1) }
theorem ack_out {c : CoL} {m : MsL} (h : ¬ c.ro = 2) : ackF c m = (c, []) := by unfold ackF; rw [if_neg h]
theorem ack_no {c : CoL} {m : MsL} {j : Nat} (h : c.ro = 2) (hf : m.f = (j : Int)) (hy : m.y = false) : ackF c m = (nackC c j m.i, [sendF (nackC c j m.i) (j : Int)]) := by
 unfold ackF; rw [if_pos h]; dsimp only; rw [if_neg (by rw [hy]; simp), hf, Int.toNat_natCast]; rfl
theorem ack_yes {c : CoL} {m : MsL} {j : Nat} (h : c.ro = 2) (hf : m.f = (j : Int)) (hy : m.y = true) : ackF c m = (couC (ackC c j m.i), if (couC (ackC c j m.i)).ro = 2 ∧ nxF (couC (ackC c j m.i)) (j : Int) ≤ lastF (couC (ackC c j m.i)).lg then [sendF (couC (ackC c j m.i)) (j : Int)] else []) := by
 unfold ackF; rw [if_pos h]; dsimp only; rw [if_pos hy, hf, Int.toNat_natCast]; rfl
theorem upd_self (f : Nat → Int) (k : Nat) (v : Int) : upd f k v k = v := by unfold upd; rw [if_pos rfl]
end Go.Proofs.YtegnfkbmlalkeaaGreat.ref13
