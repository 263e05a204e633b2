/- Words on a row of slices of bytes that a call has made, each in a block of its own. Conditions: those that each theorem names. -/
import Derived.Test.YteadkgjikaikjaaKitV
namespace Go.Proofs.Yteadkgjikaikjaa.kit
open Go.RowKit
set_option linter.unusedVariables false

/-- Each of the slices xs is the call's own, with its list of bytes; no two lie in one block. -/
def OwnsOf (E : TypeId) (w : World) (base : Nat) (xs : List Value) (L : List (List Int)) : Prop :=
  (∀ (j : Nat) (x : Value) (l : List Int), xs[j]? = some x → L[j]? = some l → Own E w base x l) ∧
  (∀ (i j : Nat) (x y : Value) (k : Nat), i ≠ j → xs[i]? = some x → xs[j]? = some y → x.ownBlock = some k → y.ownBlock ≠ some k)
section
variable {E : TypeId} {w w' : World} {base base' : Nat} {xs : List Value} {L : List (List Int)}
theorem OwnsOf.nil (E : TypeId) (w : World) (base : Nat) : OwnsOf E w base [] [] := ⟨fun j x l h => by simp at h, fun i j x y k _ h => by simp at h⟩
theorem OwnsOf.below (h : OwnsOf E w base xs L) (hb : Below w.heap.size w w') : OwnsOf E w' base xs L := ⟨fun j x l hx hl => (h.1 j x l hx hl).below hb, h.2⟩
theorem OwnsOf.more (h : OwnsOf E w base xs L) (hB : base' ≤ base) : OwnsOf E w base' xs L := ⟨fun j x l hx hl => (h.1 j x l hx hl).more hB, h.2⟩
/-- What grows another block than an own slice's leaves it. -/
theorem Own.grown {k : Option Nat} {v : Value} {l : List Int} (h : Own E w base v l) (hG : w.grownBy w' k) (hne : ∀ g, v.ownBlock = some g → k ≠ some g) : Own E w' base v l := by
  refine ⟨h.1, ?_⟩
  rcases h.2 with hn | ⟨g, cap, cur, rfl, hb, hg, r⟩
  · exact .inl hn
  · exact .inr ⟨g, cap, cur, rfl, hb, by rw [hG.block g (Array.getElem?_eq_some_iff.1 hg).1 (fun e => hne g rfl e.symm)]; exact hg, r⟩
/-- A slice of another element type lies elsewhere. -/
theorem own_apart {E' : TypeId} (hE : E ≠ E') {v u : Value} {l : List Int} {ys : List Value} {b2 g : Nat} (h : Own E w base v l) (hO : OwnV E' w b2 u ys) (hg : v.ownBlock = some g) : u.ownBlock ≠ some g := by
  intro hu
  rcases h.2 with ⟨hv, _⟩ | ⟨g1, cap, cur, hv, _, hh, _⟩
  · rw [hv] at hg; simp [Value.ownBlock] at hg
  · rcases hO.2 with ⟨hv2, _⟩ | ⟨g2, cap2, cur2, hv2, _, hh2, _⟩
    · rw [hv2] at hu; simp [Value.ownBlock] at hu
    · rw [hv] at hg
      rw [hv2] at hu
      have e1 : g1 = g := by simpa [Value.ownBlock] using hg
      have e2 : g2 = g := by simpa [Value.ownBlock] using hu
      subst e1
      subst e2
      rw [hh] at hh2
      simp only [Option.some.injEq, Obj.cells.injEq] at hh2
      exact hE hh2.2.1
theorem OwnsOf.grown {E' : TypeId} (hE : E ≠ E') {v : Value} {ys : List Value} {b2 : Nat} (h : OwnsOf E w base xs L) (hO : OwnV E' w b2 v ys) (hG : w.grownBy w' v.ownBlock) : OwnsOf E w' base xs L :=
  ⟨fun j x l hx hl => (h.1 j x l hx hl).grown hG (fun g hg => own_apart hE (h.1 j x l hx hl) hO hg), h.2⟩
/-- One more, made behind all that was there. -/
theorem OwnsOf.snoc {j : Nat} {x : Value} {l : List Int} {W : World} (h : OwnsOf E w base xs L) (h0 : OwnsOf E W base xs L) (hj : xs.length = j) (hL : L.length = j) (hx : Own E w W.heap.size x l) (hb : base ≤ W.heap.size) : OwnsOf E w base (xs ++ [x]) (L ++ [l]) := by
  have hold : ∀ (i : Nat) (y : Value), xs[i]? = some y → ∀ k, y.ownBlock = some k → k < W.heap.size := fun i y hy k hk => by
    have hi : i < xs.length := (List.getElem?_eq_some_iff.1 hy).1
    exact ((h0.1 i y L[i] hy (List.getElem?_eq_getElem (by omega))).lt k hk).2
  have hlast : ∀ (i : Nat) (y : Value), (xs ++ [x])[i]? = some y → (i < j ∧ xs[i]? = some y) ∨ (i = j ∧ y = x) := fun i y hy => by
    by_cases hi : i < xs.length
    · rw [List.getElem?_append_left hi] at hy; exact .inl ⟨by omega, hy⟩
    · have hi2 := (List.getElem?_eq_some_iff.1 hy).1
      simp at hi2
      obtain rfl : i = j := by omega
      rw [List.getElem?_append_right (by omega), hj, Nat.sub_self] at hy
      simp at hy
      exact .inr ⟨rfl, hy.symm⟩
  constructor
  · intro i y m hy hm
    rcases hlast i y hy with ⟨hi, hy⟩ | ⟨rfl, rfl⟩
    · rw [List.getElem?_append_left (by omega)] at hm
      exact h.1 i y m hy hm
    · rw [List.getElem?_append_right (by omega), hL, Nat.sub_self] at hm
      simp at hm
      subst hm
      exact hx.more hb
  · intro i i2 y z k hne hy hz hk
    rcases hlast i y hy with ⟨hi, hy1⟩ | ⟨hi, hy1⟩
    · rcases hlast i2 z hz with ⟨hi2, hz1⟩ | ⟨hi2, hz1⟩
      · exact h.2 i i2 y z k hne hy1 hz1 hk
      · intro h2
        rw [hz1] at h2
        have h3 := (hx.lt k h2).1
        have h4 := hold i y hy1 k hk
        omega
    · rcases hlast i2 z hz with ⟨hi2, hz1⟩ | ⟨hi2, hz1⟩
      · intro h2
        rw [hy1] at hk
        have h3 := (hx.lt k hk).1
        have h4 := hold i2 z hz1 k h2
        omega
      · omega
theorem OwnsOf.sl (h : OwnsOf E w base xs L) : ∀ (j : Nat) (x : Value) (l : List Int), xs[j]? = some x → L[j]? = some l → Sl w w.heap.size x l := fun j x l hx hl => by
  obtain ⟨A, c, e, h1, h2, hR⟩ := (h.1 j x l hx hl).slice
  exact ⟨A, c, e, h1, h2, hR⟩
end
theorem Own.rd {E : TypeId} {w : World} {base n : Nat} {A : Option Addr} {c : Nat} {l : List Int} (h : Own E w base (.slice A n c) l) (hn : l.length = n) : Rd w w.heap.size A n l := by
  obtain ⟨A', c', hv, h1, h2, hR⟩ := h.slice
  simp only [Value.slice.injEq] at hv
  obtain ⟨rfl, -, rfl⟩ := hv
  rwa [hn] at hR
theorem Own.caps {E : TypeId} {w : World} {base n : Nat} {A : Option Addr} {c : Nat} {l : List Int} (h : Own E w base (.slice A n c) l) (hn : l.length = n) : n ≤ c ∧ c ≤ maxLen := by
  obtain ⟨A', c', hv, h1, h2, hR⟩ := h.slice
  simp only [Value.slice.injEq] at hv
  obtain ⟨rfl, -, rfl⟩ := hv
  omega
theorem Own.sl {E : TypeId} {w : World} {base n : Nat} {A : Option Addr} {c : Nat} {l : List Int} (h : Own E w base (.slice A n c) l) (hn : l.length = n) : Sl w w.heap.size (.slice A n c) l :=
  ⟨A, c, by rw [hn], by rw [hn]; exact (h.caps hn).1, (h.caps hn).2, by rw [hn]; exact h.rd hn⟩
theorem Sl.rd {w : World} {B n c : Nat} {A : Option Addr} {l : List Int} (h : Sl w B (.slice A n c) l) (hn : l.length = n) : Rd w B A n l := by
  obtain ⟨A', c', hv, h1, h2, hR⟩ := h
  simp only [Value.slice.injEq] at hv
  obtain ⟨rfl, -, rfl⟩ := hv
  rwa [hn] at hR
theorem OwnV.grown {E : TypeId} {w w' : World} {base : Nat} {k : Option Nat} {v : Value} {xs : List Value} (h : OwnV E w base v xs) (hG : w.grownBy w' k) (hne : ∀ g, v.ownBlock = some g → k ≠ some g) : OwnV E w' base v xs := by
  refine ⟨h.1, ?_⟩
  rcases h.2 with hn | ⟨g, cap, cur, rfl, hb, hg, r⟩
  · exact .inl hn
  · exact .inr ⟨g, cap, cur, rfl, hb, by rw [hG.block g (Array.getElem?_eq_some_iff.1 hg).1 (fun e => hne g rfl e.symm)]; exact hg, r⟩
/-- The slices from the i-th on are the call's own. -/
def OwnsFrom (E : TypeId) (w : World) (base i : Nat) (xs : List Value) (L : List (List Int)) : Prop := ∀ (j : Nat) (x : Value) (l : List Int), i ≤ j → xs[j]? = some x → L[j]? = some l → Own E w base x l
theorem OwnsOf.from_ {E : TypeId} {w : World} {base : Nat} {xs : List Value} {L : List (List Int)} (h : OwnsOf E w base xs L) : OwnsFrom E w base 0 xs L := fun j x l _ hx hl => h.1 j x l hx hl
/-- What the i-th's block alone grew in leaves those behind it. -/
theorem OwnsFrom.step {E : TypeId} {w w' : World} {base i : Nat} {xs : List Value} {L : List (List Int)} {x : Value} (h : OwnsFrom E w base i xs L) (hd : ∀ (i j : Nat) (x y : Value) (k : Nat), i ≠ j → xs[i]? = some x → xs[j]? = some y → x.ownBlock = some k → y.ownBlock ≠ some k) (hx : xs[i]? = some x) (hG : w.grownBy w' x.ownBlock) : OwnsFrom E w' base (i + 1) xs L := fun j y l hj hy hl =>
  (h j y l (by omega) hy hl).grown hG (fun g hg e => hd i j x y g (by omega) hx hy e hg)
/-- What an index reads of a row of slices of bytes, and where it lies. -/
theorem RdS.at2 {w : World} {B n : Nat} {A : Option Addr} {L : List (List Int)} (h : RdS w B A n L) {j : Nat} (hj : j < n) : ∃ b o Aj cj l, A = some ⟨b, o, none⟩ ∧ b < B ∧ L[j]? = some l ∧ w.cell? ⟨b, o + j, none⟩ = some (.slice Aj l.length cj) ∧ l.length ≤ cj ∧ cj ≤ maxLen ∧ Rd w B Aj l.length l := by
  obtain ⟨b, o, Aj, cj, l, e, h1, h2, h3, h4, h5⟩ := h.at_ hj
  obtain ⟨xs, hV, _, _⟩ := h
  obtain ⟨b', o', e', hb, _⟩ := hV.2 (by omega)
  rw [e] at e'
  simp only [Option.some.injEq, Addr.mk.injEq, and_true] at e'
  obtain ⟨rfl, rfl⟩ := e'
  exact ⟨b, o, Aj, cj, l, e, hb, h1, h2, h3, h4, h5⟩
theorem Rd.upto {w : World} {B n q : Nat} {A : Option Addr} {l : List Int} (h : Rd w B A n l) (hq : q ≤ n) : Rd w B A q (l.take q) := by
  refine ⟨by rw [List.length_take, h.1]; omega, fun hn => ?_⟩
  obtain ⟨b, o, e, hb, hc⟩ := h.2 (by omega)
  refine ⟨b, o, e, hb, fun j hj => ?_⟩
  rw [hc j (by omega), List.getD_eq_getElem?_getD, List.getD_eq_getElem?_getD, List.getElem?_take, if_pos hj]
/-- A row of own slices, as it reads. -/
theorem rds_of {E E' : TypeId} {w : World} {base base2 n : Nat} {A : Option Addr} {c : Nat} {xs : List Value} {L : List (List Int)} (hO : OwnV E' w base (.slice A n c) xs) (hn : xs.length = n) (hL : L.length = n) (h : OwnsOf E w base2 xs L) : RdS w w.heap.size A n L := by
  obtain ⟨A', c', hv, h1, h2, hV⟩ := hO.slice
  simp only [Value.slice.injEq] at hv
  obtain ⟨rfl, -, rfl⟩ := hv
  rw [hn] at hV
  exact ⟨xs, hV, hL, h.sl⟩
theorem Own.form {E : TypeId} {w : World} {base n c : Nat} {A : Option Addr} {l : List Int} (h : Own E w base (.slice A n c) l) (hn : 0 < n) : ∃ g, A = some ⟨g, 0, none⟩ ∧ base ≤ g := by
  rcases h.2 with ⟨hv, hz⟩ | ⟨g, cap, cur, hv, hb, _⟩
  · simp only [Value.slice.injEq] at hv; omega
  · simp only [Value.slice.injEq] at hv; exact ⟨g, hv.1, hb⟩
theorem u8s_set (l : List Int) (j : Nat) (x : Int) : (u8s l).set j (.int .u8 x) = u8s (l.set j x) := by
  unfold u8s; rw [List.map_set]
theorem Own.stored {E : TypeId} {w : World} {base n c g : Nat} {l : List Int} (h : Own E w base (.slice (some ⟨g, 0, none⟩) n c) l) (hn : l.length = n) (j : Nat) (x : Int) : Own E (w.setCell ⟨g, j, none⟩ (.int .u8 x)) base (.slice (some ⟨g, 0, none⟩) n c) (l.set j x) := by
  have h0 : w.ownsRow base E 1 (.slice (some ⟨g, 0, none⟩) n c) n (u8s l) := by have := h; unfold Own at this; rwa [hn] at this
  have h1 := World.ownsRow.stored h0 j (.int .u8 x)
  rw [u8s_set] at h1
  unfold Own
  rw [List.length_set, hn]
  exact h1.1
theorem Own.cell {E : TypeId} {w : World} {base n c g : Nat} {l : List Int} (h : Own E w base (.slice (some ⟨g, 0, none⟩) n c) l) (hn : l.length = n) (j : Nat) (hj : j < n) : w.cell? ⟨g, j, none⟩ = some (.int .u8 (l.getD j 0)) ∧ w.frozen? ⟨g, j, none⟩ = false := by
  have h0 : w.ownsRow base E 1 (.slice (some ⟨g, 0, none⟩) n c) n (u8s l) := by have := h; unfold Own at this; rwa [hn] at this
  exact ⟨by rw [World.ownsRow.cellAt h0 j (by omega), u8s_getElem? l j (by omega)], World.ownsRow.frozenAt h0 j⟩
/-- A slice of bytes that the call lays, as its own. -/
theorem Own.lit (w : World) (E : TypeId) {base n : Nat} (l : List Int) (hn : l.length = n) (hb : base ≤ w.heap.size) (hm : n ≤ 140737488355328) : Own E (w.alloc (.cells (u8s l).toArray E)) base (.slice (some ⟨w.heap.size, 0, none⟩) n n) l :=
  own_of_block (cs := u8s l) hb (heap_alloc_new w _) hn (Nat.le_refl _) hm (by rw [u8s_length, hn]) (by rw [← hn, ← u8s_length]; exact List.take_length)
end Go.Proofs.Yteadkgjikaikjaa.kit
