/- Runs: a core that is gone through, with what it sent; what a method turns. Conditions: those that each theorem names. -/
import Derived.ArgAppend
import Derived.Deep.RegionHeld3
import Derived.Deep.Cut
import Derived.Lib.Hide
import Derived.Test.YtegnfkbmlalkeaaGreatSpKitCo
import Derived.Test.YtegnfkbmlalkeaaGreatSpKitLg
import Derived.Test.YtegnfkbmlalkeaaGreatSpJ0
set_option linter.unusedVariables false
set_option maxHeartbeats 16000000
set_option maxRecDepth 10000
namespace Go.Proofs.YtegnfkbmlalkeaaGreat.kit
open Go Go.RowKit kit nums cf lg cr
theorem run_append_fresh_k {P : Program} (w : World) (base : Nat) (t ty e : TypeId) (z : Value) (sz by_ : Nat) (ht : P.underlying t = some (.slice e)) (h2 : (P.info? e).map (fun i => (i.zero, i.size, i.bytes)) = some (some z, sz, by_)) (hz : z.cells.size = sz) (hk0 : 0 < sz)
  (A : Option Addr) (n c : Nat) (xs : List Value) (hown : w.ownsRow base e sz (.slice A n c) n xs)
  (B : Nat) (X : Option Addr) (m xc : Nat) (news : List Value) (hR : RdK w B X m sz news) (h1 : ∀ u ∈ news, u.oneCell' = true) (hb : (n + m) * by_ ≤ 140737488355328) (h63 : n + m ≤ maxLen) {v : Value} {w' : World}
  (hrun : (Builtin.append_ #[t, t] ty #[.slice A n c, .slice X m xc]).run P w = .ok v w') : ∀ k, v.ownBlock = some k → (Value.slice A n c).ownBlock = some k ∨ w.heap.size ≤ k := by
 obtain ⟨i, hi, hz0, hz1, hz2⟩ := info_parts h2
 have hm : news.length = m * sz := hR.1
 intro k hk
 rcases X with _ | ad
 ·
  have hm0 : m = 0 := by
   rcases Nat.eq_zero_or_pos m with h0 | h0
   · exact h0
   ·
    obtain ⟨b, o, h, _⟩ := hR.2 h0
    cases h
  subst hm0
  have := run_append_src_none_k (P := P) w base t ty e i sz ht hi _ n xs hown xc
  rw [this] at hrun
  injection hrun with e1 e2
  subst e1
  exact .inl hk
 ·
  have hcells : ∀ j u, news[j]? = some u → w.cell? (ad.add j) = some u := by
   intro j u hu
   have hp : 0 < news.length := by have := (List.getElem?_eq_some_iff.1 hu).1; omega
   have hm1 : 0 < m := by
    rcases Nat.eq_zero_or_pos m with h0 | h0
    · rw [h0, Nat.zero_mul] at hm; omega
    · exact h0
   obtain ⟨b, o, h, _, hc⟩ := hR.2 hm1
   injection h with h
   subst h
   rw [Addr.add_lit]
   exact hc j u hu
  rcases hown.2 with ⟨hv, hn0⟩ | ⟨g, cap, cur, hv, hbg, hg, hnc, hcm, hcs, htake⟩
  ·
   obtain ⟨v2, w2, hrun2, h3, _, _⟩ := run_append_own (P := P) w w.heap.size t ty e i z sz by_ ht hi hz0 hz1 hz2 hz hk0 _ n xs ⟨hown.1, .inl ⟨hv, hn0⟩⟩ ad m xc news hm hcells h1 h63 hb (Nat.le_refl _)
   rw [hrun] at hrun2
   injection hrun2 with e1 e2
   subst e1
   exact .inr (World.ownsRow.lt h3 k hk).1
  ·
   simp only [Value.slice.injEq] at hv
   obtain ⟨rfl, -, rfl⟩ := hv
   by_cases hroom : n + m ≤ c
   ·
    left
    have := run_append_room (P := P) w t ty e i ht hi g n c cur hg ad m xc news (by rw [hz1]; exact hm) hcells h1 hroom (by rw [hz1, hcs, hm, ← Nat.add_mul]; exact Nat.mul_le_mul_right _ hroom)
    rw [hrun] at this
    injection this with e1 e2
    subst e1
    exact hk
   ·
    right
    have holds : ∀ j u, xs[j]? = some u → w.cell? ((⟨g, 0, none⟩ : Addr).add j) = some u := fun j u hu => by
     have hj : j < n * sz := by rw [← hown.1]; exact (List.getElem?_eq_some_iff.1 hu).1
     rw [Addr.add_lit, Nat.zero_add, World.ownsRow.cellAt hown j hj]
     exact hu
    obtain ⟨v2, w2, hrun2, h3, _⟩ := run_append_arg_grows (P := P) w t ty e i z sz by_ ht hi hz0 hz1 hz2 hz hk0 ⟨g, 0, none⟩ n c xs hown.1 holds ad m xc news hm hcells (by omega) h63 hb
    rw [hrun] at hrun2
    injection hrun2 with e1 e2
    subst e1
    exact (World.ownsRow.lt h3 k hk).1
structure Rw where
 row : Option Nat
 lo : Nat
structure Ch (g : Nat) (o : Rw) (w w' : World) : Prop where
 os : w'.os = w.os
 tape : w'.tape = w.tape
 output : w'.output = w.output
 size : w.heap.size ≤ w'.heap.size
 block : ∀ k, k < w.heap.size → k ≠ g → o.row ≠ some k → w'.heap[k]? = w.heap[k]?
def Nx (o o' : Rw) (w : World) : Prop := (∀ k, o'.row = some k → o.row = some k ∨ w.heap.size ≤ k) ∧ o'.lo = o.lo
def Ap (g : Nat) (o : Rw) (q : Nat) : Prop := q ≠ g ∧ o.row ≠ some q
section
variable {w w' w'' w0 : World} {g q B : Nat} {o o' o'' : Rw}
theorem Ch.refl (g : Nat) (o : Rw) (w : World) : Ch g o w w := ⟨rfl, rfl, rfl, Nat.le_refl _, fun _ _ _ _ => rfl⟩
theorem Nx.refl (o : Rw) (w : World) : Nx o o w := ⟨fun _ h => .inl h, rfl⟩
theorem Ch.of_below (g : Nat) (o : Rw) (h : Below w.heap.size w w') : Ch g o w w' := ⟨h.os, h.tape, h.output, h.size, fun k hk _ _ => h.block k hk⟩
theorem Ch.of_put (o : Rw) (h : Put w w' g) (hb : Below g w w') : Ch g o w w' := ⟨hb.os, hb.tape, hb.output, by rw [h.size]; exact Nat.le_refl _, fun k _ hk _ => h.other k hk⟩
theorem Put.low (h : Put w w' g) : Below g w w' := h.below g w (Below.refl _ _) (Nat.le_refl _)
theorem Nx.trans (h : Nx o o' w) (hs : w.heap.size ≤ w'.heap.size) (h' : Nx o' o'' w') : Nx o o'' w := ⟨fun k hk => by
 rcases h'.1 k hk with h1 | h1
 · exact h.1 k h1
 · exact .inr (Nat.le_trans hs h1), h'.2.trans h.2⟩
theorem Ap.next (h : Ap g o q) (hn : Nx o o' w) (hq : q < w.heap.size) : Ap g o' q := ⟨h.1, fun e => by
 rcases hn.1 q e with h1 | h1
 · exact h.2 h1
 · omega⟩
theorem Ch.trans (h : Ch g o w w') (hn : Nx o o' w) (h' : Ch g o' w' w'') : Ch g o w w'' :=
 ⟨h'.os.trans h.os, h'.tape.trans h.tape, h'.output.trans h.output, Nat.le_trans h.size h'.size, fun k hk h1 h2 => by
  have a : Ap g o' k := Ap.next ⟨h1, h2⟩ hn hk
  rw [h'.block k (Nat.lt_of_lt_of_le hk h.size) a.1 a.2, h.block k hk h1 h2]⟩
theorem Ch.low (h : Ch g o w w') (hg : B ≤ g) (ho : ∀ k, o.row = some k → B ≤ k) (hB : B ≤ w.heap.size) : Below B w w' := ⟨h.os, h.tape, h.output, h.size, fun k hk => h.block k (by omega) (by omega) (fun e => by have := ho k e; omega)⟩
theorem Blk.ch {E : TypeId} {cs : List Value} (h : Blk E w q cs) (hc : Ch g o w w') (ha : Ap g o q) : Blk E w' q cs := (hc.block q h.lt ha.1 ha.2).trans h
end
def RdX (w : World) (g : Nat) (o : Rw) (A : Option Addr) (n : Nat) (es : List EnL) : Prop := RdE w w.heap.size A n es ∧ ∀ b off, 0 < n → A = some ⟨b, off, none⟩ → Ap g o b ∧ o.lo ≤ b
section
variable {w w' : World} {g n : Nat} {o o' : Rw} {A : Option Addr} {es : List EnL}
theorem RdX.rd (h : RdX w g o A n es) : RdE w w.heap.size A n es := h.1
theorem RdE.same {B : Nat} (h : RdE w B A n es) (hb : ∀ b off, 0 < n → A = some ⟨b, off, none⟩ → w'.heap[b]? = w.heap[b]?) : RdE w' B A n es := ⟨h.1, fun hn => by
 obtain ⟨b, off, e, hlt, hc⟩ := h.2 hn
 exact ⟨b, off, e, hlt, fun j x hx => (hc j x hx).same (hb b off hn e)⟩⟩
theorem RdE.block {B : Nat} (h : RdE w B A n es) {b off : Nat} (hn : 0 < n) (e : A = some ⟨b, off, none⟩) : b < B := by
 obtain ⟨b', off', e', hlt, _⟩ := h.2 hn
 rw [e] at e'
 have := Option.some.inj e'
 simp only [Addr.mk.injEq] at this
 omega
theorem RdX.below (h : RdX w g o A n es) (hb : Below w.heap.size w w') : RdX w' g o A n es := ⟨h.1.on hb hb.size, h.2⟩
theorem RdX.ch (h : RdX w g o A n es) (hc : Ch g o w w') (hn : Nx o o' w) : RdX w' g o' A n es :=
 ⟨(h.1.same (fun b off h0 e => hc.block b (h.1.block h0 e) (h.2 b off h0 e).1.1 (h.2 b off h0 e).1.2)).more hc.size, fun b off h0 e => ⟨(h.2 b off h0 e).1.next hn (h.1.block h0 e), by rw [hn.2]; exact (h.2 b off h0 e).2⟩⟩
theorem RdX.put (h : RdX w g o A n es) (hp : Put w w' g) : RdX w' g o A n es :=
 ⟨(h.1.same (fun b off h0 e => hp.other b (h.2 b off h0 e).1.1)).more (by rw [hp.size]; exact Nat.le_refl _), h.2⟩
theorem RdX.of_own {base c : Nat} (h : OwnE w base (.slice A n c) es) (hg : g < base) (ho : ∀ k, o.row = some k → k < base) (hl : o.lo ≤ g) : RdX w g o A n es :=
 ⟨h.cap.2.2.2, fun b off _ e => by
  have hb := (h.blk_lt b off e).1
  exact ⟨⟨by omega, fun e2 => by have := ho b e2; omega⟩, by omega⟩⟩
theorem RdX.of_old {base c : Nat} (h : OwnE w base (.slice A n c) es) (hg : w.heap.size ≤ g) (ho : o.row = none) (hl : o.lo ≤ base) : RdX w g o A n es :=
 ⟨h.cap.2.2.2, fun b off _ e => by
  have hb := h.blk_lt b off e
  exact ⟨⟨by omega, fun e2 => by rw [ho] at e2; cases e2⟩, by omega⟩⟩
theorem RdX.far {z : Nat} (h : RdX w g o A n es) (hp : Put w w' z) (hz : z < o.lo) : RdX w' g o A n es :=
 ⟨(h.1.same (fun b off h0 e => hp.other b (by have := (h.2 b off h0 e).2; omega))).more (by rw [hp.size]; exact Nat.le_refl _), h.2⟩
theorem RdX.nil (w : World) (g : Nat) (o : Rw) (A : Option Addr) : RdX w g o A 0 [] := ⟨RdE.nil _ _ _, fun _ _ h => absurd h (by omega)⟩
end
def OwnM (w : World) (base : Nat) (v : Value) (xs : List (MsL × Value)) : Prop := w.ownsRow base 49 22 v xs.length (xs.flatMap fun x => msC x.1 x.2)
def SlM (w : World) (g : Nat) (o : Rw) (xs : List (MsL × Value)) : Prop := ∀ x ∈ xs, ∃ A n p, x.2 = .slice A n p ∧ n ≤ p ∧ RdX w g o A n x.1.es
def RunR (w : World) (g : Nat) (o : Rw) (A : Option Addr) (n p : Nat) (es : List EnL) (v : Value) (ms : List MsL) : Prop :=
 RdX w g o A n es ∧ n ≤ p ∧ o.lo ≤ g ∧ ∃ xs, OwnM w (g + 1) v xs ∧ v.ownBlock = o.row ∧ xs.map Prod.fst = ms ∧ SlM w g o xs
def RunI (w : World) (g : Nat) (c : CoL) (ms : List MsL) (o : Rw) : Prop :=
 ∃ A n p v, Blk 99 w g (rnC c (.slice A n p) v) ∧ RunR w g o A n p c.lg.es v ms
section
variable {w w' : World} {g : Nat} {c c' : CoL} {ms : List MsL} {o o' : Rw}
theorem OwnM.same {base : Nat} {v : Value} {xs : List (MsL × Value)} (h : OwnM w base v xs) (hb : ∀ k, v.ownBlock = some k → k < w.heap.size → w'.heap[k]? = w.heap[k]?) : OwnM w' base v xs := by
 refine ⟨h.1, ?_⟩
 rcases h.2 with hn | ⟨q, cap, cur, rfl, hbq, hq, r⟩
 · exact .inl hn
 · exact .inr ⟨q, cap, cur, rfl, hbq, (hb q rfl (lt_of_block hq)).trans hq, r⟩
theorem OwnM.lt {base : Nat} {v : Value} {xs : List (MsL × Value)} (h : OwnM w base v xs) : ∀ k, v.ownBlock = some k → base ≤ k ∧ k < w.heap.size := fun k hk => World.ownsRow.lt h k hk
theorem SlM.below {xs : List (MsL × Value)} (h : SlM w g o xs) (hb : Below w.heap.size w w') : SlM w' g o xs := fun x hx => by
 obtain ⟨A, n, p, e, h1, h2⟩ := h x hx
 exact ⟨A, n, p, e, h1, h2.below hb⟩
theorem SlM.put {xs : List (MsL × Value)} (h : SlM w g o xs) (hp : Put w w' g) : SlM w' g o xs := fun x hx => by
 obtain ⟨A, n, p, e, h1, h2⟩ := h x hx
 exact ⟨A, n, p, e, h1, h2.put hp⟩
theorem SlM.ch {xs : List (MsL × Value)} (h : SlM w g o xs) (hc : Ch g o w w') (hn : Nx o o' w) : SlM w' g o' xs := fun x hx => by
 obtain ⟨A, n, p, e, h1, h2⟩ := h x hx
 exact ⟨A, n, p, e, h1, h2.ch hc hn⟩
theorem RunR.below {A : Option Addr} {n p : Nat} {es : List EnL} {v : Value} (h : RunR w g o A n p es v ms) (hb : Below w.heap.size w w') : RunR w' g o A n p es v ms := by
 obtain ⟨h2, h3, hl, xs, h4, h5, h6, h7⟩ := h
 exact ⟨h2.below hb, h3, hl, xs, h4.same (fun k _ hk => hb.block k hk), h5, h6, h7.below hb⟩
theorem RunR.put {A : Option Addr} {n p : Nat} {es : List EnL} {v : Value} (h : RunR w g o A n p es v ms) (hp : Put w w' g) : RunR w' g o A n p es v ms := by
 obtain ⟨h2, h3, hl, xs, h4, h5, h6, h7⟩ := h
 exact ⟨h2.put hp, h3, hl, xs, h4.same (fun k hk _ => hp.other k (by have := (h4.lt k hk).1; omega)), h5, h6, h7.put hp⟩
theorem RunR.rd {A : Option Addr} {n p : Nat} {es : List EnL} {v : Value} (h : RunR w g o A n p es v ms) : RdE w w.heap.size A n es := h.1.1
theorem RunR.cap {A : Option Addr} {n p : Nat} {es : List EnL} {v : Value} (h : RunR w g o A n p es v ms) : n ≤ p := h.2.1
theorem RunR.row {A : Option Addr} {n p : Nat} {es : List EnL} {v : Value} (h : RunR w g o A n p es v ms) : ∀ k, o.row = some k → g < k ∧ k < w.heap.size := by
 obtain ⟨_, _, _, xs, h4, h5, _⟩ := h
 intro k hk
 have := h4.lt k (h5.trans hk)
 exact ⟨by omega, this.2⟩
theorem RunR.log {A A' : Option Addr} {n p n' p' : Nat} {es es' : List EnL} {v : Value} (h : RunR w g o A n p es v ms) (hx : RdX w g o A' n' es') (hp : n' ≤ p') : RunR w g o A' n' p' es' v ms := ⟨hx, hp, h.2.2⟩
theorem RunR.lo {A : Option Addr} {n p : Nat} {es : List EnL} {v : Value} (h : RunR w g o A n p es v ms) : o.lo ≤ g := h.2.2.1
theorem RunI.lo (h : RunI w g c ms o) : o.lo ≤ g := by
 obtain ⟨A, n, p, v, _, h2⟩ := h
 exact h2.lo
theorem RunI.below (h : RunI w g c ms o) (hb : Below w.heap.size w w') : RunI w' g c ms o := by
 obtain ⟨A, n, p, v, h1, h2⟩ := h
 exact ⟨A, n, p, v, h1.below hb h1.lt, h2.below hb⟩
theorem RunI.lt (h : RunI w g c ms o) : g < w.heap.size := by
 obtain ⟨A, n, p, v, h1, _⟩ := h
 exact h1.lt
theorem RunI.row (h : RunI w g c ms o) : ∀ k, o.row = some k → g < k ∧ k < w.heap.size := by
 obtain ⟨A, n, p, v, _, h2⟩ := h
 exact h2.row
theorem RunR.fresh {A : Option Addr} {n p : Nat} {es : List EnL} {v : Value} (h : RunR w g o A n p es v ms) (hg : g < w.heap.size) {q : Nat} (hq : w.heap.size ≤ q) : Ap g o q := ⟨by omega, fun e => by have := h.row q e; omega⟩
theorem RunI.fresh (h : RunI w g c ms o) {q : Nat} (hq : w.heap.size ≤ q) : Ap g o q := ⟨by have := h.lt; omega, fun e => by have := h.row q e; omega⟩
theorem Ap.below {q : Nat} (hq : q < g) (h : ∀ k, o.row = some k → g < k) : Ap g o q := ⟨by omega, fun e => by have := h q e; omega⟩
theorem RunR.far {A : Option Addr} {n p z : Nat} {es : List EnL} {v : Value} (h : RunR w g o A n p es v ms) (hp : Put w w' z) (hz : z < o.lo) : RunR w' g o A n p es v ms := by
 obtain ⟨h2, h3, hl, xs, h4, h5, h6, h7⟩ := h
 refine ⟨h2.far hp hz, h3, hl, xs, h4.same (fun k hk _ => hp.other k (by have := (h4.lt k hk).1; omega)), h5, h6, fun x hx => ?_⟩
 obtain ⟨A, n, p, e, h1, h2⟩ := h7 x hx
 exact ⟨A, n, p, e, h1, h2.far hp hz⟩
theorem RunI.low (h : RunI w g c ms o) (hc : Ch g o w w') : Below g w w' := hc.low (Nat.le_refl _) (fun k hk => Nat.le_of_lt (h.row k hk).1) (Nat.le_of_lt h.lt)
end
end Go.Proofs.YtegnfkbmlalkeaaGreat.kit
