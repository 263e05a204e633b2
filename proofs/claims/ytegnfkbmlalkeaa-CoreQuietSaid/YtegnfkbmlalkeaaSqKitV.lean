/- Plain words on slices of any one-cell elements in memory, and on slices of slices of bytes; laws of append for them. Conditions: those that each theorem names. -/
import Derived.Test.YtegnfkbmlalkeaaSqJ0
namespace Go.Proofs.Ytegnfkbmlalkeaa.kit
open Go.RowKit Go.Proofs.Ytegnfkbmlalkeaa.nums
def RdV (w : World) (B : Nat) (A : Option Addr) (n : Nat) (xs : List Value) : Prop :=
 xs.length = n ∧ (0 < n → ∃ b o, A = some ⟨b, o, none⟩ ∧ b < B ∧ ∀ j, j < n → w.cell? ⟨b, o + j, none⟩ = xs[j]?)
def OwnV (E : TypeId) (w : World) (base : Nat) (v : Value) (xs : List Value) : Prop := w.ownsRow base E 1 v xs.length xs
section
variable {w w' : World} {B B' n : Nat} {A : Option Addr} {xs : List Value}
theorem RdV.keep (h : RdV w B A n xs) (hk : ∀ b o, b < B → w'.cell? ⟨b, o, none⟩ = w.cell? ⟨b, o, none⟩) : RdV w' B A n xs :=
 ⟨h.1, fun hn => by
   obtain ⟨b, o, e, hb, hc⟩ := h.2 hn
   exact ⟨b, o, e, hb, fun j hj => (hk b (o + j) hb).trans (hc j hj)⟩⟩
theorem RdV.below (h : RdV w B A n xs) (hb : Below B w w') : RdV w' B A n xs := h.keep fun b o hlt => hb.cell (p := ⟨b, o, none⟩) hlt
theorem RdV.more (h : RdV w B A n xs) (hB : B ≤ B') : RdV w B' A n xs :=
 ⟨h.1, fun hn => by
   obtain ⟨b, o, e, hb, hc⟩ := h.2 hn
   exact ⟨b, o, e, by omega, hc⟩⟩
theorem RdV.on (h : RdV w B A n xs) (hb : Below B w w') (hB : B ≤ B') : RdV w' B' A n xs := (h.below hb).more hB
theorem RdV.nil (w : World) (B : Nat) (A : Option Addr) : RdV w B A 0 [] := ⟨rfl, fun h => absurd h (by omega)⟩
theorem RdV.pos (h : RdV w B A n xs) : 0 < xs.length → ∃ ad, A = some ad ∧ ∀ j u, xs[j]? = some u → w.cell? (ad.add j) = some u := by
 intro hl
 rw [h.1] at hl
 obtain ⟨b, o, e, _, hc⟩ := h.2 hl
 refine ⟨⟨b, o, none⟩, e, fun j u hu => ?_⟩
 have hj : j < xs.length := (List.getElem?_eq_some_iff.1 hu).1
 rw [Addr.add_lit, ← hu]
 exact hc j (by rw [← h.1]; exact hj)
theorem RdV.at_ (h : RdV w B A n xs) {j : Nat} (hj : j < n) : ∃ b o u, A = some ⟨b, o, none⟩ ∧ xs[j]? = some u ∧ w.cell? ⟨b, o + j, none⟩ = some u := by
 obtain ⟨b, o, e, _, hc⟩ := h.2 (by omega)
 have hl : j < xs.length := by have := h.1; omega
 exact ⟨b, o, xs[j], e, List.getElem?_eq_getElem hl, by rw [hc j hj, List.getElem?_eq_getElem hl]⟩
theorem RdV.one (w : World) (E : TypeId) (z : Value) : RdV (w.alloc (.cells #[z] E)) (w.heap.size + 1) (some ⟨w.heap.size, 0, none⟩) 1 [z] := by
 refine ⟨rfl, fun _ => ⟨_, 0, rfl, by omega, fun j hj => ?_⟩⟩
 obtain rfl : j = 0 := by omega
 have hb : Blk E (w.alloc (.cells #[z] E)) w.heap.size [z] := heap_alloc_new w _
 rw [hb.cell]
end
section
variable {E : TypeId} {w w' : World} {base base' : Nat} {v : Value} {xs : List Value}
theorem OwnV.nil (E : TypeId) (w : World) (base : Nat) : OwnV E w base (.slice none 0 0) [] := World.ownsRow_nil w base E 1
theorem OwnV.lt (h : OwnV E w base v xs) : ∀ k, v.ownBlock = some k → base ≤ k ∧ k < w.heap.size := World.ownsRow.lt h
theorem OwnV.slice (h : OwnV E w base v xs) : ∃ A c, v = .slice A xs.length c ∧ xs.length ≤ c ∧ c ≤ maxLen ∧ RdV w w.heap.size A xs.length xs := by
 have h0 := h
 rcases h.2 with ⟨hv, hn⟩ | ⟨g, cap, cur, rfl, hb, hg, hnc, hcm, hcs, htake⟩
 · exact ⟨none, 0, by rw [hv, hn], by omega, by omega, rfl, fun hp => absurd hp (by omega)⟩
 · refine ⟨_, cap, rfl, hnc, hcm, rfl, fun _ => ⟨g, 0, rfl, (Array.getElem?_eq_some_iff.1 hg).1, fun j hj => ?_⟩⟩
   rw [Nat.zero_add, World.ownsRow.cellAt (show w.ownsRow base E 1 _ _ _ from h0) j (by omega)]
theorem OwnV.below (h : OwnV E w base v xs) (hb : Below w.heap.size w w') : OwnV E w' base v xs := by
 refine ⟨h.1, ?_⟩
 rcases h.2 with hn | ⟨g, cap, cur, rfl, hbg, hg, r⟩
 · exact .inl hn
 · exact .inr ⟨g, cap, cur, rfl, hbg, by rw [hb.block g (Array.getElem?_eq_some_iff.1 hg).1]; exact hg, r⟩
theorem OwnV.more (h : OwnV E w base v xs) (hB : base' ≤ base) : OwnV E w base' v xs := by
 refine ⟨h.1, ?_⟩
 rcases h.2 with hn | ⟨g, cap, cur, rfl, hb, r⟩
 · exact .inl hn
 · exact .inr ⟨g, cap, cur, rfl, by omega, r⟩
theorem OwnV.alloc (h : OwnV E w base v xs) (o : Obj) : OwnV E (w.alloc o) base v xs := h.below ((Below.refl _ _).alloc (Nat.le_refl _) o)
end
theorem run_append_v {P : Program} (w : World) (base : Nat) (t ty e : TypeId) (z : Value) (by_ : Nat) (ht : P.underlying t = some (.slice e)) (h2 : (P.info? e).map (fun i => (i.zero, i.size, i.bytes)) = some (some z, 1, by_)) (hz : z.cells.size = 1)
   (A : Option Addr) (n c : Nat) (xs : List Value) (hn : xs.length = n) (hown : OwnV e w base (.slice A n c) xs)
   (B : Nat) (X : Option Addr) (m xc : Nat) (news : List Value) (hR : RdV w B X m news) (h1 : ∀ u ∈ news, u.oneCell' = true) (hb : (n + m) * by_ ≤ 140737488355328) (h63 : n + m ≤ maxLen) (hbase : base ≤ w.heap.size) :
   ∃ A' c' w', (Builtin.append_ #[t, t] ty #[.slice A n c, .slice X m xc]).run P w = .ok (.slice A' (n + m) c') w' ∧ OwnV e w' base (.slice A' (n + m) c') (xs ++ news) ∧ Below base w w' ∧ w.grownBy w' (Value.ownBlock (.slice A n c)) := by
 obtain ⟨i, hi, hz0, hz1, hz2⟩ := info_parts h2
 have hm : news.length = m := hR.1
 have hown' : w.ownsRow base e 1 (.slice A n c) n xs := by unfold OwnV at hown; rw [hn] at hown; exact hown
 have hfin : ∀ (v' : Value) (w' : World), w'.ownsRow base e 1 v' (n + m) (xs ++ news) → w.grownBy w' (Value.ownBlock (.slice A n c)) → ∃ A' c', v' = .slice A' (n + m) c' ∧ OwnV e w' base (.slice A' (n + m) c') (xs ++ news) ∧ Below base w w' := by
   intro v' w' h hg
   have hO : OwnV e w' base v' (xs ++ news) := by
     unfold OwnV; rw [List.length_append, hn, hm]; exact h
   obtain ⟨A', c', e1, _⟩ := hO.slice
   rw [List.length_append, hn, hm] at e1
   refine ⟨A', c', e1, by rw [← e1]; exact hO, ?_⟩
   exact (Below.refl base w).grown hg hbase (fun k hk => (hown.lt k hk).1)
 rcases X with _ | ad
 · have hm0 : m = 0 := by
     rcases Nat.eq_zero_or_pos m with h0 | h0
     · exact h0
     · obtain ⟨b, o, h, _⟩ := hR.2 h0
       cases h
   subst hm0
   have hnews : news = [] := List.eq_nil_of_length_eq_zero hm
   subst hnews
   refine ⟨A, c, w, run_append_src_none w base t ty e i ht hi _ n xs hown' xc, ?_, Below.refl _ _, World.grownBy.refl _ _⟩
   simpa using hown
 · have hcells : ∀ j u, news[j]? = some u → w.cell? (ad.add j) = some u := by
     intro j u hu
     have hp : 0 < news.length := by have := (List.getElem?_eq_some_iff.1 hu).1; omega
     obtain ⟨ad', h, hc⟩ := hR.pos hp
     injection h with h
     subst h
     exact hc j u hu
   obtain ⟨v', w', hrun, h3, h4, _⟩ := run_append_own (P := P) w base t ty e i z 1 by_ ht hi hz0 hz1 hz2 hz (by omega) _ n xs hown' ad m xc news (by omega) hcells h1 h63 hb hbase
   obtain ⟨A', c', rfl, hO, hB⟩ := hfin v' w' h3 h4
   exact ⟨A', c', w', hrun, hO, hB, h4⟩
theorem wpList_append_v {P : Program} {w : World} {ops : Array Oper} {rest : List Oper} {o : Oper} {a : Act} {Q : Exit → Act → World → Prop} (hgd : o.guard = none) (s x : Operand) (t : TypeId)
   (ho : o.op = .call { callee := .builtin .append, args := #[s, x], argTypes := #[t, t] }) (base : Nat) (e : TypeId) (z : Value) (by_ : Nat) (ht : P.underlying t = some (.slice e)) (h2 : (P.info? e).map (fun i => (i.zero, i.size, i.bytes)) = some (some z, 1, by_)) (hz : z.cells.size = 1)
   (A : Option Addr) (n c : Nat) (xs : List Value) (hn : xs.length = n) (hs : a.eval s = .slice A n c) (hown : OwnV e w base (.slice A n c) xs)
   (B : Nat) (X : Option Addr) (m xc : Nat) (news : List Value) (hx : a.eval x = .slice X m xc) (hR : RdV w B X m news) (h1 : ∀ u ∈ news, u.oneCell' = true) (hb : (n + m) * by_ ≤ 140737488355328) (h63 : n + m ≤ maxLen) (hbase : base ≤ w.heap.size)
   (h : ∀ A' c' w', OwnV e w' base (.slice A' (n + m) c') (xs ++ news) → Below base w w' → w.grownBy w' (Value.ownBlock (.slice A n c)) → wpList P ops Q rest (a.put o.dst (.slice A' (n + m) c')) w') : wpList P ops Q (o :: rest) a w := by
 refine wpList_plain hgd fun K hK => ?_
 obtain ⟨A', c', w', hrun, h3, h4, h5⟩ := run_append_v (P := P) w base t o.type e z by_ ht h2 hz A n c xs hn hown B X m xc news hR h1 hb h63 hbase
 unfold Oper.wp execOp
 simp only [ho, resolve, invoke, builtin, Sem.run_bind, Sem.run_pure, Result.andThen_ok, List.map_toArray, List.map_cons, List.map_nil, hs, hx, hrun]
 exact hK _ _ (h A' c' w' h3 h4 h5)
def Sl (w : World) (B : Nat) (x : Value) (l : List Int) : Prop := ∃ A c, x = .slice A l.length c ∧ l.length ≤ c ∧ c ≤ maxLen ∧ Rd w B A l.length l
theorem Sl.below {w w' : World} {B : Nat} {x : Value} {l : List Int} (h : Sl w B x l) (hb : Below B w w') : Sl w' B x l := by
 obtain ⟨A, c, e, h1, h2, hR⟩ := h
 exact ⟨A, c, e, h1, h2, hR.below hb⟩
theorem Sl.more {w : World} {B B' : Nat} {x : Value} {l : List Int} (h : Sl w B x l) (hB : B ≤ B') : Sl w B' x l := by
 obtain ⟨A, c, e, h1, h2, hR⟩ := h
 exact ⟨A, c, e, h1, h2, hR.more hB⟩
def RdS (w : World) (B : Nat) (A : Option Addr) (n : Nat) (L : List (List Int)) : Prop :=
 ∃ xs : List Value, RdV w B A n xs ∧ L.length = n ∧ ∀ (j : Nat) (x : Value) (l : List Int), xs[j]? = some x → L[j]? = some l → Sl w B x l
section
variable {w w' : World} {B B' n : Nat} {A : Option Addr} {L : List (List Int)}
theorem RdS.len (h : RdS w B A n L) : L.length = n := by obtain ⟨_, _, h, _⟩ := h; exact h
theorem RdS.below (h : RdS w B A n L) (hb : Below B w w') : RdS w' B A n L := by
 obtain ⟨xs, h1, h2, h3⟩ := h
 exact ⟨xs, h1.below hb, h2, fun j x l hx hl => (h3 j x l hx hl).below hb⟩
theorem RdS.more (h : RdS w B A n L) (hB : B ≤ B') : RdS w B' A n L := by
 obtain ⟨xs, h1, h2, h3⟩ := h
 exact ⟨xs, h1.more hB, h2, fun j x l hx hl => (h3 j x l hx hl).more hB⟩
theorem RdS.on (h : RdS w B A n L) (hb : Below B w w') (hB : B ≤ B') : RdS w' B' A n L := (h.below hb).more hB
theorem RdS.at_ (h : RdS w B A n L) {j : Nat} (hj : j < n) : ∃ b o Aj cj l, A = some ⟨b, o, none⟩ ∧ L[j]? = some l ∧ w.cell? ⟨b, o + j, none⟩ = some (.slice Aj l.length cj) ∧ l.length ≤ cj ∧ cj ≤ maxLen ∧ Rd w B Aj l.length l := by
 obtain ⟨xs, h1, h2, h3⟩ := h
 obtain ⟨b, o, u, e, hu, hc⟩ := h1.at_ hj
 have hl : L[j]? = some L[j] := List.getElem?_eq_getElem (by omega)
 obtain ⟨Aj, cj, rfl, g1, g2, hR⟩ := h3 j u _ hu hl
 exact ⟨b, o, Aj, cj, L[j], e, hl, hc, g1, g2, hR⟩
theorem RdS.nil (w : World) (B : Nat) (A : Option Addr) : RdS w B A 0 [] := ⟨[], RdV.nil w B A, rfl, fun j x l hx => by simp at hx⟩
end
def AllB (L : List (List Int)) : Prop := ∀ l ∈ L, Byt l ∧ l.length ≤ 1099511627776
theorem AllB.take {L : List (List Int)} (h : AllB L) (j : Nat) : AllB (L.take j) := fun l hl => h l (List.mem_of_mem_take hl)
end Go.Proofs.Ytegnfkbmlalkeaa.kit
