/- Plain words on byte slices in memory (what a slice reads as; what a call owns) and laws of make, copy and append for them. Conditions: those that each theorem names. -/
import Derived.Test.YteadkgjikaikjaaTk
import Derived.WalkKit
import Derived.WalkLawsBesides
import Derived.WalkSpells
import Derived.OwnWalk
import Derived.Laws.CopyOwn
import Derived.Laws.BytesArg
import Derived.Lib.Hide
namespace Go.Proofs.Yteadkgjikaikjaa.kit
open Go.RowKit

/-- The cells of bytes. -/
def u8s (l : List Int) : List Value := l.map (Value.int .u8)
theorem u8s_length (l : List Int) : (u8s l).length = l.length := by simp [u8s]
theorem u8s_append (l m : List Int) : u8s (l ++ m) = u8s l ++ u8s m := by simp [u8s]
theorem u8s_one (l : List Int) : ∀ u ∈ u8s l, u.oneCell' = true := ints_oneCell .u8 l
theorem u8s_getElem? (l : List Int) (j : Nat) (h : j < l.length) : (u8s l)[j]? = some (.int .u8 (l.getD j 0)) := by
  simp [u8s, List.getD, h]
theorem u8s_inj {l m : List Int} (h : u8s l = u8s m) : l = m := by
  have h' := congrArg (List.map intOf) h
  simpa [u8s, Function.comp_def, intOf] using h'

/-- The slice at address A with n elements reads as the bytes l and lies below block B. -/
def Rd (w : World) (B : Nat) (A : Option Addr) (n : Nat) (l : List Int) : Prop :=
  l.length = n ∧ (0 < n → ∃ b o, A = some ⟨b, o, none⟩ ∧ b < B ∧ ∀ j, j < n → w.cell? ⟨b, o + j, none⟩ = some (.int .u8 (l.getD j 0)))

section
variable {w w' : World} {B B' n : Nat} {A : Option Addr} {l : List Int}
theorem Rd.len (h : Rd w B A n l) : l.length = n := h.1
theorem Rd.keep (h : Rd w B A n l) (hk : ∀ b o, b < B → w'.cell? ⟨b, o, none⟩ = w.cell? ⟨b, o, none⟩) : Rd w' B A n l :=
  ⟨h.1, fun hn => by
    obtain ⟨b, o, e, hb, hc⟩ := h.2 hn
    exact ⟨b, o, e, hb, fun j hj => (hk b (o + j) hb).trans (hc j hj)⟩⟩
theorem Rd.below (h : Rd w B A n l) (hb : Below B w w') : Rd w' B A n l := h.keep fun b o hlt => hb.cell (p := ⟨b, o, none⟩) hlt
theorem Rd.more (h : Rd w B A n l) (hB : B ≤ B') : Rd w B' A n l :=
  ⟨h.1, fun hn => by
    obtain ⟨b, o, e, hb, hc⟩ := h.2 hn
    exact ⟨b, o, e, by omega, hc⟩⟩
theorem Rd.on (h : Rd w B A n l) (hb : Below B w w') (hB : B ≤ B') : Rd w' B' A n l := (h.below hb).more hB
theorem Rd.drew (h : Rd w B A n l) : Rd w.drew B A n l := h
theorem Rd.alloc (h : Rd w B A n l) (hB : B ≤ w.heap.size) (o : Obj) : Rd (w.alloc o) B A n l := h.below ((Below.refl _ _).alloc hB o)
theorem Rd.cut {b o p q : Nat} (h : Rd w B (some ⟨b, o, none⟩) n l) (hp : p ≤ q) (hq : q ≤ n) : Rd w B (some ⟨b, o + p, none⟩) (q - p) ((l.drop p).take (q - p)) := by
  refine ⟨by rw [List.length_take, List.length_drop, h.1]; omega, fun hn => ?_⟩
  obtain ⟨b', o', e, hb, hc⟩ := h.2 (by omega)
  simp only [Option.some.injEq, Addr.mk.injEq, and_true] at e
  obtain ⟨rfl, rfl⟩ := e
  refine ⟨b, o + p, rfl, hb, fun j hj => ?_⟩
  rw [Nat.add_assoc, hc (p + j) (by omega), List.getD_eq_getElem?_getD, List.getD_eq_getElem?_getD, List.getElem?_take, if_pos hj, List.getElem?_drop]
theorem Rd.nil (w : World) (B : Nat) (A : Option Addr) : Rd w B A 0 [] := ⟨rfl, fun h => absurd h (by omega)⟩
/-- The cells of a reading, for the laws of copy and append. -/
theorem Rd.pos (h : Rd w B A n l) : 0 < (u8s l).length → ∃ ad, A = some ad ∧ ∀ j u, (u8s l)[j]? = some u → w.cell? (ad.add j) = some u := by
  intro hl
  rw [u8s_length, h.1] at hl
  obtain ⟨b, o, e, _, hc⟩ := h.2 hl
  refine ⟨⟨b, o, none⟩, e, fun j u hu => ?_⟩
  have hj : j < l.length := by
    have := (List.getElem?_eq_some_iff.1 hu).1
    simpa [u8s_length] using this
  rw [u8s_getElem? l j hj] at hu
  obtain rfl := Option.some.inj hu
  rw [Addr.add_lit]
  exact hc j (by rw [← h.1]; exact hj)
end

/-- The value v is a slice that the call has made (from block 'base' on), with the bytes l; E: the element type's number. -/
def Own (E : TypeId) (w : World) (base : Nat) (v : Value) (l : List Int) : Prop := w.ownsRow base E 1 v l.length (u8s l)

section
variable {E : TypeId} {w w' : World} {base base' : Nat} {v : Value} {l : List Int}
theorem Own.nil (E : TypeId) (w : World) (base : Nat) : Own E w base (.slice none 0 0) [] := World.ownsRow_nil w base E 1
theorem Own.lt (h : Own E w base v l) : ∀ k, v.ownBlock = some k → base ≤ k ∧ k < w.heap.size := World.ownsRow.lt h
/-- What is owned is a slice, and reads. -/
theorem Own.slice (h : Own E w base v l) : ∃ A c, v = .slice A l.length c ∧ l.length ≤ c ∧ c ≤ maxLen ∧ Rd w w.heap.size A l.length l := by
  have h0 := h
  rcases h.2 with ⟨hv, hn⟩ | ⟨g, cap, cur, rfl, hb, hg, hnc, hcm, hcs, htake⟩
  · exact ⟨none, 0, by rw [hv, hn], by omega, by omega, rfl, fun hp => absurd hp (by omega)⟩
  · refine ⟨_, cap, rfl, hnc, hcm, rfl, fun _ => ⟨g, 0, rfl, (Array.getElem?_eq_some_iff.1 hg).1, fun j hj => ?_⟩⟩
    rw [Nat.zero_add, World.ownsRow.cellAt (show w.ownsRow base E 1 _ _ _ from h0) j (by omega), u8s_getElem? l j hj]
theorem Own.more (h : Own E w base v l) (hB : base' ≤ base) : Own E w base' v l := by
  refine ⟨h.1, ?_⟩
  rcases h.2 with hn | ⟨g, cap, cur, rfl, hb, r⟩
  · exact .inl hn
  · exact .inr ⟨g, cap, cur, rfl, by omega, r⟩
/-- What is owned stays so where nothing below the heap's size turns. -/
theorem Own.below (h : Own E w base v l) (hb : Below w.heap.size w w') : Own E w' base v l := by
  refine ⟨h.1, ?_⟩
  rcases h.2 with hn | ⟨g, cap, cur, rfl, hbg, hg, r⟩
  · exact .inl hn
  · exact .inr ⟨g, cap, cur, rfl, hbg, by rw [hb.block g (Array.getElem?_eq_some_iff.1 hg).1]; exact hg, r⟩
/-- What lies below B stays owned where nothing below B turns. -/
theorem Own.below' {B : Nat} (h : Own E w base v l) (hb : Below B w w') (hv : ∀ k, v.ownBlock = some k → k < B) : Own E w' base v l := by
  refine ⟨h.1, ?_⟩
  rcases h.2 with hn | ⟨g, cap, cur, rfl, hbg, hg, r⟩
  · exact .inl hn
  · exact .inr ⟨g, cap, cur, rfl, hbg, by rw [hb.block g (hv g rfl)]; exact hg, r⟩
end

/-- Block g is just the cells cs, of element type E, none frozen. -/
def Blk (E : TypeId) (w : World) (g : Nat) (cs : List Value) : Prop := w.heap[g]? = some (.cells cs.toArray E (0, 0))
/-- So many bytes 0. -/
def zeros (n : Nat) : List Value := List.replicate n (.int .u8 0)
theorem zeros_length (n : Nat) : (zeros n).length = n := by simp [zeros]

section
variable {E : TypeId} {w w' : World} {g : Nat} {cs : List Value}
theorem Blk.lt (h : Blk E w g cs) : g < w.heap.size := (Array.getElem?_eq_some_iff.1 h).1
theorem Blk.drew (h : Blk E w g cs) : Blk E w.drew g cs := h
theorem Blk.below {B : Nat} (h : Blk E w g cs) (hb : Below B w w') (hg : g < B) : Blk E w' g cs := (hb.block g hg).trans h
theorem Blk.alloc (h : Blk E w g cs) (o : Obj) : Blk E (w.alloc o) g cs := h.below ((Below.refl _ _).alloc (Nat.le_refl _) o) h.lt
theorem Blk.cell (h : Blk E w g cs) (j : Nat) : w.cell? ⟨g, j, none⟩ = cs[j]? := by
  rw [cell_of_row w g j _ E (0, 0) h]; simp
theorem Blk.frozen (h : Blk E w g cs) (j : Nat) : w.frozen? ⟨g, j, none⟩ = false := by
  unfold Blk at h; simp [World.frozen?, h]
theorem Blk.rd {l : List Int} {n : Nat} (h : Blk E w g cs) (ht : cs.take n = u8s l) (hn : l.length = n) {B : Nat} (hB : g < B) : Rd w B (some ⟨g, 0, none⟩) n l :=
  ⟨hn, fun _ => ⟨g, 0, rfl, hB, fun j hj => by
    rw [Nat.zero_add, h.cell j]
    have e : (cs.take n)[j]? = cs[j]? := by rw [List.getElem?_take, if_pos hj]
    rw [← e, ht, u8s_getElem? l j (by omega)]⟩⟩
theorem Blk.set_ (h : Blk E w g cs) (j : Nat) (u : Value) : Blk E (w.setCell ⟨g, j, none⟩ u) g (cs.set j u) := by
  unfold Blk at h ⊢
  simp [World.setCell, Array.getElem?_modify, h]
theorem Blk.far (h : Blk E w g cs) {p : Addr} (hp : g ≠ p.block) (u : Value) : Blk E (w.setCell p u) g cs := (Below.heap_setCell w p u g hp).trans h
end

theorem zeros_set (m : Nat) (x : Int) (r : List Value) : (zeros (m + 1) ++ r).set m (.int .u8 x) = zeros m ++ (.int .u8 x :: r) := by
  have h : zeros (m + 1) = zeros m ++ [.int .u8 0] := by unfold zeros; rw [List.replicate_succ']
  rw [h, List.append_assoc, List.set_append_right _ _ (by simp [zeros])]
  simp [zeros]
theorem zeros_get (m : Nat) (r : List Value) : (zeros (m + 1) ++ r)[m]? = some (.int .u8 0) := by
  rw [List.getElem?_append_left (by simp [zeros])]
  simp [zeros]
/-- 'make([]T, l, c)', both variables: a new block of c zero cells. The world behind it is a variable. -/
theorem wpList_make_room {P : Program} (w : World) {ops : Array Oper} {rest : List Oper} {o : Oper} {a : Act} {Q : Exit → Act → World → Prop}
    (hg : o.guard = none) (l c : Operand) (t : TypeId) (hop : o.op = Op.makeSlice t l c)
    (e : TypeId) (i : TypeInfo) (z : Value) (h1 : P.underlying t = some (.slice e)) (h2 : P.info? e = some i) (h3 : i.zero = some z) (h4 : i.size = 1) (hz : z.cells = #[z])
    (kl kc : IntKind) (L C : Int) (m n : Nat) (hl : a.eval l = .int kl L) (hc : a.eval c = .int kc C) (hL : L = (m : Int)) (hC : C = (n : Int)) (hmn : m ≤ n) (b2 : i.bytes * n ≤ 281474976710656) (b3 : n ≤ maxLen)
    (hK : ∀ w', Blk e w' w.heap.size (List.replicate n z) → Below w.heap.size w w' → Hid (w'.heap.size = w.heap.size + 1) →
      wpList P ops Q rest (a.put o.dst (.slice (some ⟨w.heap.size, 0, none⟩) m n)) w') :
    wpList P ops Q (o :: rest) a w := by
  refine wpList_plain hg fun K hK' => ?_
  have h63' : (n : Int) ≤ 9223372036854775807 := by
    have h := b3
    simp [maxLen] at h
    omega
  have hb' : (i.bytes : Int) * (n : Int) ≤ 281474976710656 := by
    have h : ((i.bytes * n : Nat) : Int) ≤ 281474976710656 := by omega
    rwa [Int.natCast_mul] at h
  have hrun := run_make (P := P) w t e i z h1 h2 h3 kl kc m n (by omega) (by omega) hb' h63'
  simp only [Int.toNat_natCast, h4, Nat.mul_one, hz] at hrun
  subst hL
  subst hC
  unfold Oper.wp
  simp [execOp, hop, hl, hc, hrun, Result.andThen]
  refine hK' _ _ (hK _ ?_ ((Below.refl _ _).alloc (Nat.le_refl _) _) ?_)
  · show (w.heap.push _)[w.heap.size]? = _
    rw [Array.getElem?_push, if_pos rfl]
    have e0 : (madeCells #[z] n) = (List.replicate n z).toArray := by
      rw [← toList_madeCells_one z n]
    rw [e0]
  · show (w.heap.push _).size = _
    simp

/-- The same for bytes. -/
theorem wpList_make_bytes {P : Program} (w : World) {ops : Array Oper} {rest : List Oper} {o : Oper} {a : Act} {Q : Exit → Act → World → Prop}
    (hg : o.guard = none) (l c : Operand) (t : TypeId) (hop : o.op = Op.makeSlice t l c)
    (e : TypeId) (h1 : P.underlying t = some (.slice e)) (h2 : (P.info? e).map (fun i => (i.zero, i.size, i.bytes)) = some (some (.int .u8 0), 1, 1))
    (kl kc : IntKind) (L C : Int) (m n : Nat) (hl : a.eval l = .int kl L) (hc : a.eval c = .int kc C) (hL : L = (m : Int)) (hC : C = (n : Int)) (hmn : m ≤ n) (b : n ≤ 140737488355328)
    (hK : ∀ w', Blk e w' w.heap.size (zeros n) → Below w.heap.size w w' → Hid (w'.heap.size = w.heap.size + 1) →
      wpList P ops Q rest (a.put o.dst (.slice (some ⟨w.heap.size, 0, none⟩) m n)) w') :
    wpList P ops Q (o :: rest) a w := by
  obtain ⟨i, hi, hz0, hz1, hz2⟩ := info_parts h2
  exact wpList_make_room w hg l c t hop e i (.int .u8 0) h1 hi hz0 hz1 rfl kl kc L C m n hl hc hL hC hmn (by rw [hz2]; omega) (by unfold maxLen; omega) hK

/-- 'copy(dst, src)': dst in a block that is known whole, src any slice of bytes that is no longer than dst. -/
theorem wpList_copy_rd {P : Program} {w : World} {ops : Array Oper} {rest : List Oper} {o : Oper} {a : Act} {Q : Exit → Act → World → Prop} (hgd : o.guard = none) (d s : Operand) (dT sT : TypeId)
    (ho : o.op = .call { callee := .builtin .copy, args := #[d, s], argTypes := #[dT, sT] }) (e : TypeId) (hu : P.underlying dT = some (.slice e)) (h2 : (P.info? e).map (fun i => (i.zero, i.size, i.bytes)) = some (some (.int .u8 0), 1, 1))
    (dLen dCap sLen sCap : Nat) (sp : Option Addr) (g off : Nat) (hd : a.eval d = .slice (some ⟨g, off, none⟩) dLen dCap) (hs : a.eval s = .slice sp sLen sCap)
    (cur : List Value) (E : TypeId) (hg : Blk E w g cur) (B : Nat) (l : List Int) (hR : Rd w B sp sLen l) (hn : sLen ≤ dLen) (hfit : off + sLen ≤ cur.length)
    (h : ∀ w', Blk E w' g (splice cur off (u8s l)) → Below g w w' → Hid (w'.heap.size = w.heap.size) → wpList P ops Q rest (a.put o.dst (goInt l.length)) w') :
    wpList P ops Q (o :: rest) a w := by
  obtain ⟨i, hi, hz0, hz1, hz2⟩ := info_parts h2
  have hlen : (u8s l).length = sLen := by rw [u8s_length, hR.1]
  have hsz : (P.info? e).map (·.size) = some 1 := by rw [hi]; simp [hz1]
  by_cases h0 : sLen = 0
  · have hl0 : l = [] := List.eq_nil_of_length_eq_zero (by rw [hR.1, h0])
    subst hl0
    refine wpList_copy_nothing hgd d s dT sT ho e hu hsz _ _ _ _ _ _ hd hs (by rw [h0]; simp) ?_
    exact h w (by simpa [splice, u8s] using hg) (Below.refl _ _) rfl
  · obtain ⟨ad, rfl, hsrc⟩ := hR.pos (by omega)
    refine wpList_copy_own hgd d s dT sT ho e hu hsz g off dLen dCap ad sLen sCap hd hs cur.toArray E hg (u8s l) (by rw [hlen]; exact (Nat.min_eq_left hn).symm) hsrc (by simp [hlen]; omega) (u8s_one l) ?_
    rw [u8s_length]
    refine h _ ?_ (below_setRow (Below.refl _ _) (Nat.le_refl _) _) (by show (World.setRow _ _ _).heap.size = _; simp [World.setRow])
    have := setRow_heap w g cur.toArray (cur.take off ++ (u8s l ++ cur.drop (off + (u8s l).length))).toArray E (0, 0) hg
    simpa [Blk, splice, u8s_length] using this

theorem own_of_block {E : TypeId} {w : World} {base g : Nat} {cs : List Value} {l : List Int} {n c : Nat} (hb : base ≤ g) (hg : Blk E w g cs) (hn : l.length = n) (hl : n ≤ c) (hc : c ≤ 140737488355328)
    (hs : cs.length = c) (ht : cs.take n = u8s l) : Own E w base (.slice (some ⟨g, 0, none⟩) n c) l := by
  subst hn
  exact ⟨by rw [u8s_length, Nat.mul_one], .inr ⟨g, c, cs.toArray, rfl, hb, hg, hl, by unfold maxLen; omega, by simpa using hs, by simpa using ht⟩⟩

theorem run_append_src_none {P : Program} (w : World) (base : Nat) (t ty e : TypeId) (i : TypeInfo) (ht : P.underlying t = some (.slice e)) (hi : P.info? e = some i)
    (v : Value) (n : Nat) (xs : List Value) (hown : w.ownsRow base e 1 v n xs) (c : Nat) :
    (Builtin.append_ #[t, t] ty #[v, .slice none 0 c]).run P w = .ok v w := by
  rcases hown.2 with ⟨rfl, rfl⟩ | ⟨g, cap, cur, rfl, _, _, hnc, _⟩
  · simp [Builtin.append_, run_underlying ht, sizeOf, typeInfo, hi, Builtin.lenOf, Builtin.firstCells]
  · simp [Builtin.append_, run_underlying ht, sizeOf, typeInfo, hi, Builtin.lenOf, Builtin.firstCells, hnc, storeCells]

theorem run_append_rd {P : Program} (w : World) (base : Nat) (t ty e : TypeId) (ht : P.underlying t = some (.slice e)) (h2 : (P.info? e).map (fun i => (i.zero, i.size, i.bytes)) = some (some (.int .u8 0), 1, 1))
    (A : Option Addr) (n c : Nat) (l : List Int) (hn : l.length = n) (hown : Own e w base (.slice A n c) l)
    (B : Nat) (X : Option Addr) (m xc : Nat) (news : List Int) (hR : Rd w B X m news) (hb : n + m ≤ 140737488355328) (hbase : base ≤ w.heap.size) :
    ∃ A' c' w', (Builtin.append_ #[t, t] ty #[.slice A n c, .slice X m xc]).run P w = .ok (.slice A' (n + m) c') w' ∧ Own e w' base (.slice A' (n + m) c') (l ++ news) ∧ Below base w w' ∧ w.grownBy w' (Value.ownBlock (.slice A n c)) := by
  obtain ⟨i, hi, hz0, hz1, hz2⟩ := info_parts h2
  have hm : news.length = m := hR.1
  have hfin : ∀ (v' : Value) (w' : World), w'.ownsRow base e 1 v' (n + m) (u8s (l ++ news)) → w.grownBy w' (Value.ownBlock (.slice A n c)) → ∃ A' c', v' = .slice A' (n + m) c' ∧ Own e w' base (.slice A' (n + m) c') (l ++ news) ∧ Below base w w' := by
    intro v' w' h hg
    have hO : Own e w' base v' (l ++ news) := by
      unfold Own; rw [List.length_append, hn, hm]; exact h
    obtain ⟨A', c', e1, _⟩ := hO.slice
    rw [List.length_append, hn, hm] at e1
    refine ⟨A', c', e1, by rw [← e1]; exact hO, ?_⟩
    exact (Below.refl base w).grown hg hbase (fun k hk => (hown.lt k hk).1)
  rcases X with _ | ad
  · have hm0 : m = 0 := by
      rcases Nat.eq_zero_or_pos m with h0 | h0
      · exact h0
      · obtain ⟨b, o, h, _⟩ := hR.2 h0
        cases h
    subst hm0
    have hnews : news = [] := List.eq_nil_of_length_eq_zero hm
    subst hnews
    have hown' : w.ownsRow base e 1 (.slice A n c) n (u8s l) := by unfold Own at hown; rw [hn] at hown; exact hown
    refine ⟨A, c, w, run_append_src_none w base t ty e i ht hi _ n (u8s l) hown' xc, ?_, Below.refl _ _, World.grownBy.refl _ _⟩
    simpa using hown
  · have hcells : ∀ j u, (u8s news)[j]? = some u → w.cell? (ad.add j) = some u := by
      intro j u hu
      have hp : 0 < (u8s news).length := by have := (List.getElem?_eq_some_iff.1 hu).1; omega
      obtain ⟨ad', h, hc⟩ := hR.pos hp
      injection h with h
      subst h
      exact hc j u hu
    have hown' : w.ownsRow base e 1 (.slice A n c) n (u8s l) := by unfold Own at hown; rw [hn] at hown; exact hown
    obtain ⟨v', w', hrun, h3, h4, _⟩ := run_append_own (P := P) w base t ty e i (.int .u8 0) 1 1 ht hi hz0 hz1 hz2 rfl (by omega) _ n (u8s l) hown' ad m xc (u8s news) (by rw [u8s_length, hm, Nat.mul_one]) hcells (u8s_one news) (by unfold maxLen; omega) (by omega) hbase
    rw [← u8s_append] at h3
    obtain ⟨A', c', rfl, hO, hB⟩ := hfin v' w' h3 h4
    exact ⟨A', c', w', hrun, hO, hB, h4⟩

/-- 'append(out, xs...)': out is the call's own, xs any slice of bytes. -/
theorem wpList_append_rd {P : Program} {w : World} {ops : Array Oper} {rest : List Oper} {o : Oper} {a : Act} {Q : Exit → Act → World → Prop} (hgd : o.guard = none) (s x : Operand) (t : TypeId)
    (ho : o.op = .call { callee := .builtin .append, args := #[s, x], argTypes := #[t, t] }) (base : Nat) (e : TypeId) (ht : P.underlying t = some (.slice e)) (h2 : (P.info? e).map (fun i => (i.zero, i.size, i.bytes)) = some (some (.int .u8 0), 1, 1))
    (A : Option Addr) (n c : Nat) (l : List Int) (hn : l.length = n) (hs : a.eval s = .slice A n c) (hown : Own e w base (.slice A n c) l)
    (B : Nat) (X : Option Addr) (m xc : Nat) (news : List Int) (hx : a.eval x = .slice X m xc) (hR : Rd w B X m news) (hb : n + m ≤ 140737488355328) (hbase : base ≤ w.heap.size)
    (h : ∀ A' c' w', Own e w' base (.slice A' (n + m) c') (l ++ news) → Below base w w' → w.grownBy w' (Value.ownBlock (.slice A n c)) → wpList P ops Q rest (a.put o.dst (.slice A' (n + m) c')) w') : wpList P ops Q (o :: rest) a w := by
  refine wpList_plain hgd fun K hK => ?_
  obtain ⟨A', c', w', hrun, h3, h4, h5⟩ := run_append_rd (P := P) w base t o.type e ht h2 A n c l hn hown B X m xc news hR hb hbase
  unfold Oper.wp execOp
  simp only [ho, resolve, invoke, builtin, Sem.run_bind, Sem.run_pure, Result.andThen_ok, List.map_toArray, List.map_cons, List.map_nil, hs, hx, hrun]
  exact hK _ _ (h A' c' w' h3 h4 h5)

/-- The one-cell block that 'append(out, x)' lays. -/
theorem Rd.one (w : World) (E : TypeId) (z : Int) : Rd (w.alloc (.cells #[.int .u8 z] E)) (w.heap.size + 1) (some ⟨w.heap.size, 0, none⟩) 1 [z] := by
  refine ⟨rfl, fun _ => ⟨_, 0, rfl, by omega, fun j hj => ?_⟩⟩
  obtain rfl : j = 0 := by omega
  have hb : Blk E (w.alloc (.cells #[.int .u8 z] E)) w.heap.size [.int .u8 z] := heap_alloc_new w _
  rw [hb.cell]
  rfl
/-- The empty slice that '[]byte{}' lays. -/
theorem Own.empty (w : World) (E : TypeId) {base : Nat} (hb : base ≤ w.heap.size) : Own E (w.alloc (.cells #[] E)) base (.slice (some ⟨w.heap.size, 0, none⟩) 0 0) [] := by
  have h : Blk E (w.alloc (.cells #[] E)) w.heap.size [] := heap_alloc_new w _
  exact ⟨rfl, .inr ⟨w.heap.size, 0, #[], rfl, hb, h, Nat.le_refl _, by unfold maxLen; omega, rfl, rfl⟩⟩
theorem Own.alloc {E : TypeId} {w : World} {base : Nat} {v : Value} {l : List Int} (h : Own E w base v l) (o : Obj) : Own E (w.alloc o) base v l := h.below ((Below.refl _ _).alloc (Nat.le_refl _) o)
theorem Own.drew {E : TypeId} {w : World} {base : Nat} {v : Value} {l : List Int} (h : Own E w base v l) : Own E w.drew base v l := h

/-- 'string(b)' of any slice of bytes. -/
theorem run_string_rd {P : Program} (w : World) (src e dst : TypeId) (hs : P.underlying src = some (.slice e)) (he : P.underlying e = some (.int .u8)) (hd : P.underlying dst = some .string)
    (B : Nat) (A : Option Addr) (n c : Nat) (l : List Int) (hR : Rd w B A n l) : (convert src dst (.slice A n c)).run P w = .ok (.string (strOfNums l)) w := by
  by_cases h0 : n = 0
  · subst h0
    have hl : l = [] := List.eq_nil_of_length_eq_zero hR.1
    subst hl
    rcases A with _ | ad
    · rw [run_convert_bytes_nil w src e hs he 0 c dst hd]; rfl
    · rw [run_convert_bytes_string w src dst e _ 0 c hs he hd, run_bytesToString w ad 0 c [] (by simp [loadCells, loadCellsFrom])]
      rfl
  · obtain ⟨b, o, rfl, _, hc⟩ := hR.2 (by omega)
    exact run_convert_bytes_arg w src e hs he b o n c l hR.1 hc dst hd

/-- What a call ends in that hands back a new slice of n bytes l, and the error 0. -/
def RetS (E : TypeId) (W : World) (n : Nat) (l : List Int) (e : Ending) (w' : World) : Prop :=
  ∃ A c, e = .returned (.tuple #[.slice A n c, .int .i64 0]) ∧ l.length = n ∧ Own E w' W.heap.size (.slice A n c) l ∧ Below W.heap.size W w'
/-- What a call ends in that hands back a slice of n bytes l that lies from block base on. -/
def RetO (E : TypeId) (W : World) (base n : Nat) (l : List Int) (e : Ending) (w' : World) : Prop :=
  ∃ A c, e = .returned (.slice A n c) ∧ l.length = n ∧ Own E w' base (.slice A n c) l ∧ Below base W w'
/-- What a call ends in that hands back a new slice of n bytes l alone. -/
def RetL (E : TypeId) (W : World) (n : Nat) (l : List Int) (e : Ending) (w' : World) : Prop :=
  ∃ A c, e = .returned (.slice A n c) ∧ l.length = n ∧ Own E w' W.heap.size (.slice A n c) l ∧ Below W.heap.size W w'

theorem splice_zeros (n k : Nat) (l : List Int) (h : l.length = n) : (splice (zeros (n + k)) 0 (u8s l)).take n = u8s l ∧ (splice (zeros (n + k)) 0 (u8s l)).length = n + k := by
  constructor
  · rw [← h, ← u8s_length l]; simp [splice]
  · rw [length_splice _ _ _ (by simp [u8s_length, zeros]; omega)]; simp [zeros]
end Go.Proofs.Yteadkgjikaikjaa.kit
