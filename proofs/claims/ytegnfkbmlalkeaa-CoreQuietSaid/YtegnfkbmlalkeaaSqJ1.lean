/- How shapes that come in read, in the words of the kit (stage 13). No condition. -/
import Derived.Handy
import Derived.Laws.Slices
import Derived.ArgAppend
import Derived.Laws.StructEq
import Derived.Test.YtegnfkbmlalkeaaProg
import Derived.Outline
import Derived.Deep.RegionWith
import Derived.Deep.RegionHeld3
import Derived.Test.YtegnfkbmlalkeaaRows
import Derived.ProofKit
import Derived.OpenShut
import Derived.Test.YtegnfkbmlalkeaaSqKitV
import Derived.Test.YtegnfkbmlalkeaaSqSe
import Derived.Test.YtegnfkbmlalkeaaSqJ0
namespace Go.Proofs.Ytegnfkbmlalkeaa.kit
open Go Go.RowKit Go.Proofs.Ytegnfkbmlalkeaa.nums
set_option linter.unusedVariables false
def At (w : World) (b o : Nat) (l : List Value) : Prop := ∀ j u, l[j]? = some u → w.cell? ⟨b, o + j, none⟩ = some u
section
variable {w w' : World} {B B' : Nat}
theorem At.below {b o : Nat} {l : List Value} (h : At w b o l) (hlt : b < B) (hb : Below B w w') : At w' b o l := fun j u hu => (hb.cell (p := ⟨b, o + j, none⟩) hlt).trans (h j u hu)
theorem At.cells {b o : Nat} {l : List Value} (h : At w b o l) (j : Nat) (u : Value) (hu : l[j]? = some u) : w.cell? ⟨b, o + j, none⟩ = some u := h j u hu
end
theorem flat_get {α : Type} (f : α → List Value) (k : Nat) (hf : ∀ x, (f x).length = k) : ∀ (l : List α) (j i : Nat) (x : α), l[j]? = some x → i < k → (l.flatMap f)[j * k + i]? = (f x)[i]?
 | [], j, i, x, h, _ => by cases h
 | y :: l, 0, i, x, h, hi => by
   obtain rfl := Option.some.inj h
   rw [List.flatMap_cons, Nat.zero_mul, Nat.zero_add, List.getElem?_append_left (by rw [hf]; exact hi)]
 | y :: l, j + 1, i, x, h, hi => by
   rw [List.flatMap_cons, List.getElem?_append_right (by rw [hf, Nat.succ_mul]; omega), hf, show (j + 1) * k + i - k = j * k + i by rw [Nat.succ_mul]; omega]
   exact flat_get f k hf l j i x h hi
theorem flat_length {α : Type} (f : α → List Value) (k : Nat) (hf : ∀ x, (f x).length = k) : ∀ l : List α, (l.flatMap f).length = l.length * k
 | [] => by simp
 | y :: l => by rw [List.flatMap_cons, List.length_append, hf, flat_length f k hf l, List.length_cons, Nat.succ_mul]; omega
def RdK (w : World) (B : Nat) (A : Option Addr) (m k : Nat) (l : List Value) : Prop := l.length = m * k ∧ (0 < m → ∃ b o, A = some ⟨b, o, none⟩ ∧ b < B ∧ At w b o l)
theorem run_append_src_none_k {P : Program} (w : World) (base : Nat) (t ty e : TypeId) (i : TypeInfo) (k : Nat) (ht : P.underlying t = some (.slice e)) (hi : P.info? e = some i)
   (v : Value) (n : Nat) (xs : List Value) (hown : w.ownsRow base e k v n xs) (c : Nat) :
   (Builtin.append_ #[t, t] ty #[v, .slice none 0 c]).run P w = .ok v w := by
 rcases hown.2 with ⟨rfl, rfl⟩ | ⟨g, cap, cur, rfl, _, _, hnc, _⟩
 · simp [Builtin.append_, run_underlying ht, sizeOf, typeInfo, hi, Builtin.lenOf, Builtin.firstCells]
 · simp [Builtin.append_, run_underlying ht, sizeOf, typeInfo, hi, Builtin.lenOf, Builtin.firstCells, hnc, storeCells]
theorem run_append_k {P : Program} (w : World) (base : Nat) (t ty e : TypeId) (z : Value) (k by_ : Nat) (ht : P.underlying t = some (.slice e)) (h2 : (P.info? e).map (fun i => (i.zero, i.size, i.bytes)) = some (some z, k, by_)) (hz : z.cells.size = k) (hk : 0 < k)
   (A : Option Addr) (n c : Nat) (xs : List Value) (hown : w.ownsRow base e k (.slice A n c) n xs)
   (B : Nat) (X : Option Addr) (m xc : Nat) (news : List Value) (hR : RdK w B X m k news) (h1 : ∀ u ∈ news, u.oneCell' = true) (hb : (n + m) * by_ ≤ 140737488355328) (h63 : n + m ≤ maxLen) (hbase : base ≤ w.heap.size) :
   ∃ A' c' w', (Builtin.append_ #[t, t] ty #[.slice A n c, .slice X m xc]).run P w = .ok (.slice A' (n + m) c') w' ∧ w'.ownsRow base e k (.slice A' (n + m) c') (n + m) (xs ++ news) ∧ Below base w w' ∧ w.grownBy w' (Value.ownBlock (.slice A n c)) := by
 obtain ⟨i, hi, hz0, hz1, hz2⟩ := info_parts h2
 have hm : news.length = m * k := hR.1
 have hfin : ∀ (v' : Value) (w' : World), w'.ownsRow base e k v' (n + m) (xs ++ news) → w.grownBy w' (Value.ownBlock (.slice A n c)) → ∃ A' c', v' = .slice A' (n + m) c' ∧ w'.ownsRow base e k (.slice A' (n + m) c') (n + m) (xs ++ news) ∧ Below base w w' := by
   intro v' w' h hg
   have hB : Below base w w' := (Below.refl base w).grown hg hbase (fun q hq => (hown.lt q hq).1)
   rcases h.2 with ⟨hv, hn⟩ | ⟨g, cap, cur, hv, _⟩
   · exact ⟨none, 0, by rw [hv, hn], by rw [hn] at h ⊢; rw [hv] at h; exact h, hB⟩
   · exact ⟨_, cap, hv, by rw [← hv]; exact h, hB⟩
 rcases X with _ | ad
 · have hm0 : m = 0 := by
     rcases Nat.eq_zero_or_pos m with h0 | h0
     · exact h0
     · obtain ⟨b, o, h, _⟩ := hR.2 h0
       cases h
   subst hm0
   have hnews : news = [] := List.eq_nil_of_length_eq_zero (by rw [hm]; omega)
   subst hnews
   refine ⟨A, c, w, run_append_src_none_k w base t ty e i k ht hi _ n xs hown xc, ?_, Below.refl _ _, World.grownBy.refl _ _⟩
   simpa using hown
 · rcases Nat.eq_zero_or_pos m with h0 | h0
   · subst h0
     have hnews : news = [] := List.eq_nil_of_length_eq_zero (by rw [hm]; omega)
     subst hnews
     obtain ⟨v', w', hrun, h3, h4, _⟩ := run_append_own (P := P) w base t ty e i z k by_ ht hi hz0 hz1 hz2 hz hk _ n xs hown ad 0 xc [] (by simp) (fun j u h => by cases h) (fun u h => by cases h) h63 hb hbase
     obtain ⟨A', c', rfl, hO, hB⟩ := hfin v' w' h3 h4
     exact ⟨A', c', w', hrun, hO, hB, h4⟩
   · obtain ⟨b, o, e0, _, hA⟩ := hR.2 h0
     injection e0 with e0
     subst e0
     have hcells : ∀ j u, news[j]? = some u → w.cell? ((⟨b, o, none⟩ : Addr).add j) = some u := fun j u hu => by
       rw [Addr.add_lit]
       exact hA j u hu
     obtain ⟨v', w', hrun, h3, h4, _⟩ := run_append_own (P := P) w base t ty e i z k by_ ht hi hz0 hz1 hz2 hz hk _ n xs hown ⟨b, o, none⟩ m xc news hm hcells h1 h63 hb hbase
     obtain ⟨A', c', rfl, hO, hB⟩ := hfin v' w' h3 h4
     exact ⟨A', c', w', hrun, hO, hB, h4⟩
theorem wpList_append_k {P : Program} {w : World} {ops : Array Oper} {rest : List Oper} {o : Oper} {a : Act} {Q : Exit → Act → World → Prop} (hgd : o.guard = none) (s x : Operand) (t : TypeId)
   (ho : o.op = .call { callee := .builtin .append, args := #[s, x], argTypes := #[t, t] }) (base : Nat) (e : TypeId) (z : Value) (k by_ : Nat) (ht : P.underlying t = some (.slice e)) (h2 : (P.info? e).map (fun i => (i.zero, i.size, i.bytes)) = some (some z, k, by_)) (hz : z.cells.size = k) (hk : 0 < k)
   (A : Option Addr) (n c : Nat) (xs : List Value) (hs : a.eval s = .slice A n c) (hown : w.ownsRow base e k (.slice A n c) n xs)
   (B : Nat) (X : Option Addr) (m xc : Nat) (news : List Value) (hx : a.eval x = .slice X m xc) (hR : RdK w B X m k news) (h1 : ∀ u ∈ news, u.oneCell' = true) (hb : (n + m) * by_ ≤ 140737488355328) (h63 : n + m ≤ maxLen) (hbase : base ≤ w.heap.size)
   (h : ∀ A' c' w', w'.ownsRow base e k (.slice A' (n + m) c') (n + m) (xs ++ news) → Below base w w' → w.grownBy w' (Value.ownBlock (.slice A n c)) → wpList P ops Q rest (a.put o.dst (.slice A' (n + m) c')) w') : wpList P ops Q (o :: rest) a w := by
 refine wpList_plain hgd fun K hK => ?_
 obtain ⟨A', c', w', hrun, h3, h4, h5⟩ := run_append_k (P := P) w base t o.type e z k by_ ht h2 hz hk A n c xs hown B X m xc news hR h1 hb h63 hbase
 unfold Oper.wp execOp
 simp only [ho, resolve, invoke, builtin, Sem.run_bind, Sem.run_pure, Result.andThen_ok, List.map_toArray, List.map_cons, List.map_nil, hs, hx, hrun]
 exact hK _ _ (h A' c' w' h3 h4 h5)
section
variable {w w' : World}
theorem lt_of_block {g : Nat} {o : Obj} (h : w.heap[g]? = some o) : g < w.heap.size := (Array.getElem?_eq_some_iff.1 h).1
theorem At.same {b o : Nat} {l : List Value} (h : At w b o l) (hb : w'.heap[b]? = w.heap[b]?) : At w' b o l := fun j u hu => (World.cell?_of_block (a := ⟨b, o + j, none⟩) hb).trans (h j u hu)
end
end Go.Proofs.Ytegnfkbmlalkeaa.kit
namespace Go.Proofs.Ytegnfkbmlalkeaa.kit
open Go.RowKit
set_option linter.unusedVariables false
def OwnsOf (E : TypeId) (w : World) (base : Nat) (xs : List Value) (L : List (List Int)) : Prop :=
 (∀ (j : Nat) (x : Value) (l : List Int), xs[j]? = some x → L[j]? = some l → Own E w base x l) ∧
 (∀ (i j : Nat) (x y : Value) (k : Nat), i ≠ j → xs[i]? = some x → xs[j]? = some y → x.ownBlock = some k → y.ownBlock ≠ some k)
section
variable {E : TypeId} {w w' : World} {base base' : Nat} {xs : List Value} {L : List (List Int)}
theorem OwnsOf.nil (E : TypeId) (w : World) (base : Nat) : OwnsOf E w base [] [] := ⟨fun j x l h => by simp at h, fun i j x y k _ h => by simp at h⟩
theorem OwnsOf.below (h : OwnsOf E w base xs L) (hb : Below w.heap.size w w') : OwnsOf E w' base xs L := ⟨fun j x l hx hl => (h.1 j x l hx hl).below hb, h.2⟩
theorem OwnsOf.more (h : OwnsOf E w base xs L) (hB : base' ≤ base) : OwnsOf E w base' xs L := ⟨fun j x l hx hl => (h.1 j x l hx hl).more hB, h.2⟩
theorem Own.grown {k : Option Nat} {v : Value} {l : List Int} (h : Own E w base v l) (hG : w.grownBy w' k) (hne : ∀ g, v.ownBlock = some g → k ≠ some g) : Own E w' base v l := by
 refine ⟨h.1, ?_⟩
 rcases h.2 with hn | ⟨g, cap, cur, rfl, hb, hg, r⟩
 · exact .inl hn
 · exact .inr ⟨g, cap, cur, rfl, hb, by rw [hG.block g (Array.getElem?_eq_some_iff.1 hg).1 (fun e => hne g rfl e.symm)]; exact hg, r⟩
theorem own_apart {E' : TypeId} (hE : E ≠ E') {v u : Value} {l : List Int} {ys : List Value} {b2 g : Nat} (h : Own E w base v l) (hO : OwnV E' w b2 u ys) (hg : v.ownBlock = some g) : u.ownBlock ≠ some g := by
 intro hu
 rcases h.2 with ⟨hv, _⟩ | ⟨g1, cap, cur, hv, _, hh, _⟩
 · rw [hv] at hg; simp [Value.ownBlock] at hg
 · rcases hO.2 with ⟨hv2, _⟩ | ⟨g2, cap2, cur2, hv2, _, hh2, _⟩
   · rw [hv2] at hu; simp [Value.ownBlock] at hu
   · rw [hv] at hg
     rw [hv2] at hu
     have e1 : g1 = g := by simpa [Value.ownBlock] using hg
     have e2 : g2 = g := by simpa [Value.ownBlock] using hu
     subst e1
     subst e2
     rw [hh] at hh2
     simp only [Option.some.injEq, Obj.cells.injEq] at hh2
     exact hE hh2.2.1
theorem OwnsOf.grown {E' : TypeId} (hE : E ≠ E') {v : Value} {ys : List Value} {b2 : Nat} (h : OwnsOf E w base xs L) (hO : OwnV E' w b2 v ys) (hG : w.grownBy w' v.ownBlock) : OwnsOf E w' base xs L :=
 ⟨fun j x l hx hl => (h.1 j x l hx hl).grown hG (fun g hg => own_apart hE (h.1 j x l hx hl) hO hg), h.2⟩
end
theorem OwnV.grown {E : TypeId} {w w' : World} {base : Nat} {k : Option Nat} {v : Value} {xs : List Value} (h : OwnV E w base v xs) (hG : w.grownBy w' k) (hne : ∀ g, v.ownBlock = some g → k ≠ some g) : OwnV E w' base v xs := by
 refine ⟨h.1, ?_⟩
 rcases h.2 with hn | ⟨g, cap, cur, rfl, hb, hg, r⟩
 · exact .inl hn
 · exact .inr ⟨g, cap, cur, rfl, hb, by rw [hG.block g (Array.getElem?_eq_some_iff.1 hg).1 (fun e => hne g rfl e.symm)]; exact hg, r⟩
theorem Own.form {E : TypeId} {w : World} {base n c : Nat} {A : Option Addr} {l : List Int} (h : Own E w base (.slice A n c) l) (hn : 0 < n) : ∃ g, A = some ⟨g, 0, none⟩ ∧ base ≤ g := by
 rcases h.2 with ⟨hv, hz⟩ | ⟨g, cap, cur, hv, hb, _⟩
 · simp only [Value.slice.injEq] at hv; omega
 · simp only [Value.slice.injEq] at hv; exact ⟨g, hv.1, hb⟩
theorem Own.cell {E : TypeId} {w : World} {base n c g : Nat} {l : List Int} (h : Own E w base (.slice (some ⟨g, 0, none⟩) n c) l) (hn : l.length = n) (j : Nat) (hj : j < n) : w.cell? ⟨g, j, none⟩ = some (.int .u8 (l.getD j 0)) ∧ w.frozen? ⟨g, j, none⟩ = false := by
 have h0 : w.ownsRow base E 1 (.slice (some ⟨g, 0, none⟩) n c) n (u8s l) := by have := h; unfold Own at this; rwa [hn] at this
 exact ⟨by rw [World.ownsRow.cellAt h0 j (by omega), u8s_getElem? l j (by omega)], World.ownsRow.frozenAt h0 j⟩
theorem Own.lit (w : World) (E : TypeId) {base n : Nat} (l : List Int) (hn : l.length = n) (hb : base ≤ w.heap.size) (hm : n ≤ 140737488355328) : Own E (w.alloc (.cells (u8s l).toArray E)) base (.slice (some ⟨w.heap.size, 0, none⟩) n n) l :=
 own_of_block (cs := u8s l) hb (heap_alloc_new w _) hn (Nat.le_refl _) hm (by rw [u8s_length, hn]) (by rw [← hn, ← u8s_length]; exact List.take_length)
end Go.Proofs.Ytegnfkbmlalkeaa.kit
namespace Go.Proofs.Ytegnfkbmlalkeaa.kit
open Go.RowKit
set_option linter.unusedVariables false
theorem Rd.sliced {w : World} {B n : Nat} {A : Option Addr} {l : List Int} (h : Rd w B A n l) {p q m : Nat} (hp : p ≤ q) (hq : q ≤ n) (hm : q ≤ m) :
   ∃ A', Go.sliced A p q m 1 = .slice A' (q - p) (m - p) ∧ Rd w B A' (q - p) ((l.drop p).take (q - p)) := by
 refine ⟨_, rfl, ?_⟩
 by_cases h0 : q - p = 0
 · rw [h0, List.take_zero]; exact Rd.nil _ _ _
 · obtain ⟨b, o, rfl, _, _⟩ := h.2 (by omega)
   rw [if_neg (by omega)]
   have := h.cut hp hq
   by_cases hp0 : p = 0
   · subst hp0
     simpa [Addr.add] using this
   · simpa [Addr.add, hp0] using this
theorem elem_of {P : Program} {t e : TypeId} (h : P.underlying t = some (.slice e)) : P.elem t = e := by
 unfold Program.elem; rw [h]
end Go.Proofs.Ytegnfkbmlalkeaa.kit
namespace Go.Proofs.Ytegnfkbmlalkeaa.se
open Go.RowKit Go.Proofs.Ytegnfkbmlalkeaa.nums
set_option linter.unusedVariables false
theorem andNot_bv (x y : BitVec 16) : x &&& ~~~y = x ^^^ (x &&& y) := by
 ext i hi
 simp only [BitVec.getElem_and, BitVec.getElem_not, BitVec.getElem_xor]
 cases x[i] <;> cases y[i] <;> rfl
theorem bits_andNot_u16_nat (a b : Nat) (ha : a < 65536) (hb : b < 65536) : bits .andNot .u16 (a : Int) (b : Int) = ((a ^^^ (a &&& b) : Nat) : Int) := by
 show IntKind.u16.wrap ((BitVec.ofInt 16 (a : Int) &&& ~~~BitVec.ofInt 16 (b : Int)).toNat : Int) = _
 rw [andNot_bv, BitVec.toNat_xor, BitVec.toNat_and, bv_nat16 a ha, bv_nat16 b hb, wrap_u16_nat _ (Nat.xor_lt_two_pow (n := 16) ha (Nat.lt_of_le_of_lt Nat.and_le_left ha))]
theorem and_bit (s : Nat) (n : Int) : s &&& bitF n = if hasF s n then bitF n else 0 := by
 cases hn : nodeB n
 · rw [bitF_not hn, hasF_not hn]; simp
 · obtain ⟨k, rfl, h1, h9⟩ := nodeB_nat hn
   rw [bitF_node h1 h9, hasF_node h1 h9]
   apply Nat.eq_of_testBit_eq
   intro i
   rw [Nat.testBit_and, Nat.testBit_two_pow]
   by_cases he : k = i
   · subst he
     cases h : s.testBit k <;> simp
   · cases h : s.testBit k <;> simp [he]
theorem and_bit_zero (s : Nat) (n : Int) : (s &&& bitF n = 0) ↔ hasF s n = false := by
 rw [and_bit]
 cases h : hasF s n
 · simp
 · have := bitF_pos.2 (has_node h)
   simp; omega
theorem less_xor (s : Nat) (n : Int) : s ^^^ (s &&& bitF n) = lessF s n := by
 rw [and_bit]
 unfold lessF
 cases h : hasF s n
 · simp
 · rw [if_pos rfl, if_pos rfl]
   obtain ⟨k, rfl, h1, h9⟩ := nodeB_nat (has_node h)
   rw [hasF_node h1 h9] at h
   rw [bitF_node h1 h9]
   apply Nat.eq_of_testBit_eq
   intro i
   rw [Nat.testBit_xor, less_bit h, Nat.testBit_two_pow]
   by_cases he : i = k
   · subst he; simp [h]
   · simp [he, show k ≠ i from fun e => he e.symm]
end Go.Proofs.Ytegnfkbmlalkeaa.se
namespace Go.Proofs.Ytegnfkbmlalkeaa.se
open Go.RowKit Go.Proofs.Ytegnfkbmlalkeaa.nums
set_option linter.unusedVariables false
def cntTo (s : Nat) : Nat → Nat
 | 0 => 0
 | k + 1 => cntTo s k + (s.testBit (k + 1)).toNat
def cntF (s : Nat) : Nat := cntTo s 9
theorem cntTo_list (s k : Nat) : (listTo s k).length = cntTo s k := by
 induction k with
 | zero => rfl
 | succ k ih =>
   simp only [listTo, cntTo]
   cases s.testBit (k + 1) <;> simp [ih]
theorem cntF_list (s : Nat) : (listF s).length = cntF s := cntTo_list s 9
theorem cntTo_le (s k : Nat) : cntTo s k ≤ k := by rw [← cntTo_list]; exact listTo_le s k
theorem cntF_le (s : Nat) : cntF s ≤ 9 := cntTo_le s 9
end Go.Proofs.Ytegnfkbmlalkeaa.se
namespace Go.Proofs.Ytegnfkbmlalkeaa.cf
open Go.RowKit Go.Proofs.Ytegnfkbmlalkeaa.nums Go.Proofs.Ytegnfkbmlalkeaa.se
set_option linter.unusedVariables false
def In64 (z : Int) : Prop := -9223372036854775808 ≤ z ∧ z ≤ 9223372036854775807
structure CfL where
 v : Nat
 w : Nat
 l : Nat
 e : Int
 k : Int
deriving DecidableEq
structure JtL where
 a : CfL
 b : CfL
 two : Bool
deriving DecidableEq
def zeroC : CfL := ⟨0, 0, 0, 0, 0⟩
def zeroJ : JtL := ⟨zeroC, zeroC, false⟩
def CfL.ok (c : CfL) : Prop := c.v < 65536 ∧ c.w < 65536 ∧ c.l < 65536 ∧ In64 c.e ∧ In64 c.k
def JtL.ok (j : JtL) : Prop := j.a.ok ∧ j.b.ok
theorem zero_ok : zeroC.ok := by refine ⟨?_, ?_, ?_, ?_, ?_⟩ <;> simp [zeroC, In64]
def votF (c : CfL) : Nat := c.v ||| c.w
def datF (c : CfL) : Nat := c.v ||| c.l
def memF (c : CfL) : Nat := c.v ||| c.w ||| c.l
theorem vot_lt {c : CfL} (h : c.ok) : votF c < 65536 := Nat.or_lt_two_pow (n := 16) h.1 h.2.1
theorem mem_lt {c : CfL} (h : c.ok) : memF c < 65536 := Nat.or_lt_two_pow (n := 16) (vot_lt h) h.2.2.1
theorem may_iff {s : Nat} : mayF s = true ↔ s &&& 1022 = s := by rw [may_of]; exact decide_eq_true_iff
theorem may_or (a b : Nat) : mayF (a ||| b) = (mayF a && mayF b) := by
 rw [Bool.eq_iff_iff, Bool.and_eq_true, may_iff, may_iff, may_iff]
 constructor
 · intro h
   constructor <;>
   · apply Nat.eq_of_testBit_eq
     intro i
     have := congrArg (fun x => x.testBit i) h
     simp only [Nat.testBit_and, Nat.testBit_or] at this ⊢
     revert this
     cases a.testBit i <;> cases b.testBit i <;> simp
 · rintro ⟨h1, h2⟩
   rw [Nat.and_or_distrib_right, h1, h2]
def mayQ (q n : Int) : Bool := decide (1 ≤ q) && decide (q ≤ n)
def quoB (c : CfL) : Bool := mayQ c.e (cntF (votF c)) && mayQ c.k (cntF (votF c)) && decide ((cntF (votF c) : Int) < c.e + c.k) && decide ((cntF (votF c) : Int) < 2 * c.e)
def apartB (c : CfL) : Bool := decide (c.v &&& c.w = 0) && decide (votF c &&& c.l = 0)
def mayC (c : CfL) : Bool := mayF (memF c) && apartB c && decide (c.v ≠ 0) && quoB c
def mayJ (j : JtL) : Bool := mayC j.a && (if j.two then mayC j.b else decide (j.b = zeroC))
theorem may_parts {c : CfL} (h : mayC c = true) : mayF c.v = true ∧ mayF c.w = true ∧ mayF c.l = true ∧ c.v ≠ 0 ∧ 1 ≤ c.e ∧ c.e ≤ cntF (votF c) ∧ 1 ≤ c.k ∧ c.k ≤ cntF (votF c) ∧ (cntF (votF c) : Int) < c.e + c.k ∧ (cntF (votF c) : Int) < 2 * c.e := by
 simp only [mayC, quoB, mayQ, apartB, memF, may_or, Bool.and_eq_true, decide_eq_true_eq] at h
 obtain ⟨⟨⟨⟨⟨h1, h2⟩, h3⟩, _⟩, h4⟩, ⟨⟨⟨h5, h6⟩, h7, h8⟩, h9⟩, h10⟩ := h
 exact ⟨h1, h2, h3, h4, h5, h6, h7, h8, h9, h10⟩
def elC (c : CfL) (got : Nat) : Bool := decide (c.e ≤ cntF (got &&& votF c))
def coC (c : CfL) (got : Nat) : Bool := decide (c.k ≤ cntF (got &&& votF c)) && decide (got &&& c.v ≠ 0)
def bothJ (j : JtL) (P : CfL → Bool) : Bool := P j.a && (!j.two || P j.b)
def elJ (j : JtL) (got : Nat) : Bool := bothJ j (elC · got)
def coJ (j : JtL) (got : Nat) : Bool := bothJ j (coC · got)
def unF (j : JtL) (f : CfL → Nat) : Nat := if j.two then f j.a ||| f j.b else f j.a
def ledF (j : JtL) (n : Int) : Bool := hasF (unF j (·.v)) n
theorem mayJ_a {j : JtL} (h : mayJ j = true) : mayC j.a = true := by
 unfold mayJ at h; rw [Bool.and_eq_true] at h; exact h.1
theorem mayJ_b {j : JtL} (h : mayJ j = true) (ht : j.two = true) : mayC j.b = true := by
 unfold mayJ at h; rw [Bool.and_eq_true, ht, if_pos rfl] at h; exact h.2
theorem un_lt {j : JtL} {f : CfL → Nat} (h1 : f j.a < 65536) (h2 : f j.b < 65536) : unF j f < 65536 := by
 unfold unF; split
 · exact Nat.or_lt_two_pow (n := 16) h1 h2
 · exact h1
theorem has_or (a b : Nat) (n : Int) : hasF (a ||| b) n = (hasF a n || hasF b n) := by
 simp only [hasF, Nat.testBit_or]
 cases nodeB n <;> simp
def finalJ (j : JtL) : JtL := if j.two then ⟨j.b, zeroC, false⟩ else j
theorem final_ok {j : JtL} (h : j.ok) : (finalJ j).ok := by
 unfold finalJ; split
 · exact ⟨h.2, zero_ok⟩
 · exact h
end Go.Proofs.Ytegnfkbmlalkeaa.cf
namespace Go.Proofs.Ytegnfkbmlalkeaa.lg
open Go Go.Proofs.Ytegnfkbmlalkeaa.cf
set_option linter.unusedVariables false
structure EnL where
 t : Int
 k : Int
 d : ByteArray
 j : JtL
def zE : EnL := ⟨0, 0, ⟨#[]⟩, zeroJ⟩
structure LgL where
 b : Int
 t : Int
 j : JtL
 es : List EnL
def zL : LgL := ⟨0, 0, zeroJ, []⟩
def withB (n m : Int) : Bool := decide (m ≤ n) && decide (n ≤ 1099511627776)
def mayE : Int → List EnL → Bool
 | _, [] => true
 | t, e :: es => withB e.t t && mayE e.t es
def mayF (l : LgL) : Bool := withB l.b 0 && (withB l.t 0 && mayE (max l.t 1) l.es)
def lastF (l : LgL) : Int := l.b + l.es.length
def atF (l : LgL) (i : Int) : EnL × Bool := if l.b < i ∧ i ≤ lastF l then (l.es.getD (i - l.b - 1).toNat zE, true) else (zE, false)
def termF (l : LgL) (i : Int) : Int × Bool := if i = l.b then (l.t, true) else ((atF l i).1.t, (atF l i).2)
theorem atF_in {l : LgL} {i : Int} {k : Nat} {x : EnL} (hi : i = l.b + 1 + k) (hx : l.es[k]? = some x) : atF l i = (x, true) := by
 obtain ⟨h1, rfl⟩ := List.getElem?_eq_some_iff.1 hx
 unfold atF lastF
 rw [if_pos (by omega), show (i - l.b - 1).toNat = k by omega, List.getD_eq_getElem?_getD, hx]; rfl
theorem atF_out {l : LgL} {i : Int} (h : i ≤ l.b ∨ lastF l < i) : atF l i = (zE, false) := by
 unfold atF; rw [if_neg (by omega)]
def sliceF (l : LgL) (a n : Int) : List EnL := (l.es.drop (max a (l.b + 1) - l.b - 1).toNat).take n.toNat
def pushF (l : LgL) (e : EnL) : LgL := { l with es := l.es ++ [e] }
def sameN : List EnL → List EnL → Nat
 | x :: a, y :: b => if x.t = y.t then sameN a b + 1 else 0
 | _, _ => 0
def joinB (l : LgL) (prev term : Int) (n : Nat) : Bool := decide (0 ≤ prev ∧ prev ≤ lastF l ∧ l.b ≤ prev + n) && (!(termF l prev).2 || (termF l prev).1 == term)
def laidF (l : LgL) (prev : Int) (es : List EnL) : List EnL :=
 let k := sameN (l.es.drop (max prev l.b - l.b).toNat) (es.drop (max prev l.b - prev).toNat)
 if k = (es.drop (max prev l.b - prev).toNat).length then l.es else l.es.take ((max prev l.b - l.b).toNat + k) ++ (es.drop (max prev l.b - prev).toNat).drop k
def mergeF (l : LgL) (prev term : Int) (es : List EnL) : LgL × Int × Bool :=
 if joinB l prev term es.length = true then ({ l with es := laidF l prev es }, prev + es.length, true) else (l, 0, false)
def confF (j : JtL) (es : List EnL) : JtL := es.foldl (fun a e => if e.k = 2 then e.j else a) j
theorem confF_snoc {j : JtL} {es : List EnL} {i : Nat} {x : EnL} (h : es[i]? = some x) : confF j (es.take (i + 1)) = if x.k = 2 then x.j else confF j (es.take i) := by
 obtain ⟨h1, rfl⟩ := List.getElem?_eq_some_iff.1 h
 rw [List.take_succ_eq_append_getElem h1, confF, List.foldl_append]; rfl
def compactF (l : LgL) (to : Int) : LgL × Int :=
 if (termF l to).2 = true then (⟨to, (termF l to).1, confF l.j (l.es.take (to - l.b).toNat), l.es.drop (to - l.b).toNat⟩, 0) else (zL, 1)
def newerF (l : LgL) (last term : Int) : Bool := if term = (termF l (lastF l)).1 then decide (lastF l ≤ last) else decide ((termF l (lastF l)).1 < term)
def Fit (l : LgL) : Prop := 0 ≤ l.b ∧ l.b ≤ 2199023255552 ∧ l.es.length ≤ 1000000
end Go.Proofs.Ytegnfkbmlalkeaa.lg
namespace Go.Proofs.Ytegnfkbmlalkeaa.kit
open Go Go.RowKit Go.Proofs.Ytegnfkbmlalkeaa.nums Go.Proofs.Ytegnfkbmlalkeaa.cf
set_option linter.unusedVariables false
def cfC (c : CfL) : List Value := [.int .u16 (c.v : Int), .int .u16 (c.w : Int), .int .u16 (c.l : Int), .int .i64 c.e, .int .i64 c.k]
def cfV (c : CfL) : Value := .agg #[.int .u16 (c.v : Int), .int .u16 (c.w : Int), .int .u16 (c.l : Int), .int .i64 c.e, .int .i64 c.k]
def jtV (j : JtL) : Value := .agg #[.int .u16 (j.a.v : Int), .int .u16 (j.a.w : Int), .int .u16 (j.a.l : Int), .int .i64 j.a.e, .int .i64 j.a.k, .int .u16 (j.b.v : Int), .int .u16 (j.b.w : Int), .int .u16 (j.b.l : Int), .int .i64 j.b.e, .int .i64 j.b.k, .bool j.two]
section
variable {w w' : World} {b o g : Nat} {E : TypeId} {a0 a1 a2 a3 a4 a5 a6 a7 a8 a9 a10 : Value}
theorem blk5 (h : Blk E w g [a0, a1, a2, a3, a4]) : w.cell? ⟨g, 0, none⟩ = some a0 ∧ w.cell? ⟨g, 1, none⟩ = some a1 ∧ w.cell? ⟨g, 2, none⟩ = some a2 ∧ w.cell? ⟨g, 3, none⟩ = some a3 ∧ w.cell? ⟨g, 4, none⟩ = some a4 :=
 ⟨h.cell 0, h.cell 1, h.cell 2, h.cell 3, h.cell 4⟩
theorem blk11 (h : Blk E w g [a0, a1, a2, a3, a4, a5, a6, a7, a8, a9, a10]) : w.cell? ⟨g, 0, none⟩ = some a0 ∧ w.cell? ⟨g, 1, none⟩ = some a1 ∧ w.cell? ⟨g, 2, none⟩ = some a2 ∧ w.cell? ⟨g, 3, none⟩ = some a3 ∧ w.cell? ⟨g, 4, none⟩ = some a4 ∧ w.cell? ⟨g, 5, none⟩ = some a5 ∧ w.cell? ⟨g, 6, none⟩ = some a6 ∧ w.cell? ⟨g, 7, none⟩ = some a7 ∧ w.cell? ⟨g, 8, none⟩ = some a8 ∧ w.cell? ⟨g, 9, none⟩ = some a9 ∧ w.cell? ⟨g, 10, none⟩ = some a10 :=
 ⟨h.cell 0, h.cell 1, h.cell 2, h.cell 3, h.cell 4, h.cell 5, h.cell 6, h.cell 7, h.cell 8, h.cell 9, h.cell 10⟩
end
section
variable {w w0 : World} {g B : Nat} {E : TypeId} {a0 a1 a2 a3 a4 a5 a6 a7 a8 a9 a10 : Value} (b0 b1 b2 b3 b4 b5 b6 b7 b8 b9 b10 : Value)
theorem put11 (K : Blk E w g [a0, a1, a2, a3, a4, a5, a6, a7, a8, a9, a10]) : Blk E (((((((((((w.setCell ⟨g, 0, none⟩ b0).setCell ⟨g, 1, none⟩ b1).setCell ⟨g, 2, none⟩ b2).setCell ⟨g, 3, none⟩ b3).setCell ⟨g, 4, none⟩ b4).setCell ⟨g, 5, none⟩ b5).setCell ⟨g, 6, none⟩ b6).setCell ⟨g, 7, none⟩ b7).setCell ⟨g, 8, none⟩ b8).setCell ⟨g, 9, none⟩ b9).setCell ⟨g, 10, none⟩ b10) g [b0, b1, b2, b3, b4, b5, b6, b7, b8, b9, b10] := (((((((((((K.set_ 0 b0).set_ 1 b1).set_ 2 b2).set_ 3 b3).set_ 4 b4).set_ 5 b5).set_ 6 b6).set_ 7 b7).set_ 8 b8).set_ 9 b9).set_ 10 b10)
theorem below11 (h : Below B w0 w) (hg : B ≤ g) : Below B w0 (((((((((((w.setCell ⟨g, 0, none⟩ b0).setCell ⟨g, 1, none⟩ b1).setCell ⟨g, 2, none⟩ b2).setCell ⟨g, 3, none⟩ b3).setCell ⟨g, 4, none⟩ b4).setCell ⟨g, 5, none⟩ b5).setCell ⟨g, 6, none⟩ b6).setCell ⟨g, 7, none⟩ b7).setCell ⟨g, 8, none⟩ b8).setCell ⟨g, 9, none⟩ b9).setCell ⟨g, 10, none⟩ b10) := (((((((((((h.setCell (p := ⟨g, 0, none⟩) hg b0).setCell (p := ⟨g, 1, none⟩) hg b1).setCell (p := ⟨g, 2, none⟩) hg b2).setCell (p := ⟨g, 3, none⟩) hg b3).setCell (p := ⟨g, 4, none⟩) hg b4).setCell (p := ⟨g, 5, none⟩) hg b5).setCell (p := ⟨g, 6, none⟩) hg b6).setCell (p := ⟨g, 7, none⟩) hg b7).setCell (p := ⟨g, 8, none⟩) hg b8).setCell (p := ⟨g, 9, none⟩) hg b9).setCell (p := ⟨g, 10, none⟩) hg b10)
end
theorem row_at {w : World} {E : TypeId} {g : Nat} {l : List Value} (h : Blk E w g l) : At w g 0 l := fun j u hu => by rw [Nat.zero_add, h.cell]; exact hu
end Go.Proofs.Ytegnfkbmlalkeaa.kit
namespace Go.Proofs.Ytegnfkbmlalkeaa.cr
open Go.Proofs.Ytegnfkbmlalkeaa.nums Go.Proofs.Ytegnfkbmlalkeaa.se Go.Proofs.Ytegnfkbmlalkeaa.cf Go.Proofs.Ytegnfkbmlalkeaa.lg
set_option linter.unusedVariables false
structure MsL where
 k : Int
 f : Int
 t : Int
 m : Int
 i : Int
 lt : Int
 c : Int
 s : Int
 y : Bool
 es : List EnL
 d : ByteArray
 j : JtL
def zM : MsL := ⟨0, 0, 0, 0, 0, 0, 0, 0, false, [], ⟨#[]⟩, zeroJ⟩
structure CoL where
 id : Int
 ro : Int
 tm : Int
 vo : Int
 le : Int
 wa : Int
 cm : Int
 sf : Int
 lg : LgL
 sn : ByteArray
 vs : Nat
 he : Nat
 nx : Nat → Int
 mt : Nat → Int
def z10 : Nat → Int := fun _ => 0
def upd (f : Nat → Int) (k : Nat) (v : Int) : Nat → Int := fun j => if j = k then v else f j
def zC : CoL := ⟨0, 0, 0, 0, 0, 0, 0, 0, zL, ⟨#[]⟩, 0, 0, z10, z10⟩
def newC (id : Int) (j : JtL) : CoL := { zC with id := id, lg := { zL with j := j } }
def patF (id : Int) : Int := 12 + 4 * id
def upB (n m : Int) : Bool := decide (0 ≤ n) && decide (n ≤ m)
def conC (c : CoL) : JtL := confF c.lg.j c.lg.es
def cnoL (b : Int) (es : List EnL) : Nat → Int
 | 0 => b
 | k + 1 => if (es[k]?).map (·.k) = some 2 then b + 1 + (k : Int) else cnoL b es k
def cnoF (l : LgL) : Int := cnoL l.b l.es l.es.length
def atC (l : LgL) : Int := cnoF l
def sayF (c : CoL) (to : Int) (m : MsL) : MsL := { m with f := c.id, t := to, m := c.tm }
def nxF (c : CoL) (n : Int) : Int := c.nx n.toNat
def mtF (c : CoL) (n : Int) : Int := c.mt n.toNat
def sendF (c : CoL) (n : Int) : MsL :=
 if nxF c n ≤ c.lg.b then sayF c n { zM with k := 5, i := c.lg.b, lt := c.lg.t, d := c.sn, j := c.lg.j, c := c.cm, s := c.sf }
 else sayF c n { zM with k := 3, i := nxF c n - 1, lt := (termF c.lg (nxF c n - 1)).1, es := sliceF c.lg (nxF c n) 8, c := c.cm, s := c.sf }
def allF (c : CoL) : List MsL := ((listF (unF (conC c) memF)).filter (fun n => !(n == c.id))).map (sendF c)
def pushC (c : CoL) (e : EnL) : CoL := { c with lg := pushF c.lg { e with t := c.tm }, mt := upd c.mt c.id.toNat (lastF c.lg + 1) }
def hasTo (c : CoL) (i : Int) : Nat → Nat
 | 0 => 0
 | n + 1 => if i ≤ mtF c ((n + 1 : Nat) : Int) then withF (hasTo c i n) ((n + 1 : Nat) : Int) else hasTo c i n
def hasC (c : CoL) (i : Int) : Nat := hasTo c i 9
def leastL (c : CoL) (s : Int) (l : List Int) : Int := l.foldl (fun s v => if s < 0 ∨ mtF c v < s then mtF c v else s) s
def twoF (j : JtL) : List CfL := if j.two then [j.a, j.b] else [j.a]
def leastC (c : CoL) : Int := (twoF (conC c)).foldl (fun s x => leastL c s (listF x.v)) (-1)
def seekF (p : Int → Bool) (lo : Int) : Nat → Int
 | 0 => lo
 | k + 1 => if p (lo + ((k + 1 : Nat) : Int)) then lo + ((k + 1 : Nat) : Int) else seekF p lo k
def cmtP (c : CoL) (i : Int) : Bool := decide ((termF c.lg i).1 = c.tm) && coJ (conC c) (hasC c i)
def cntC (c : CoL) : CoL := { c with cm := seekF (cmtP c) c.cm (lastF c.lg - c.cm).toNat, sf := max c.sf (leastC c) }
def yieC (c : CoL) : CoL := { c with ro := 0, le := 0, wa := 0 }
def fiE (j : JtL) : EnL := { zE with k := 2, j := finalJ j }
def endC (c : CoL) : CoL := if atC c.lg ≤ c.cm then (if ledF (conC c) c.id then c else yieC c) else c
def couC (c : CoL) : CoL :=
 let d := cntC c
 if atC d.lg ≤ d.cm ∧ (conC d).two = true then endC (cntC (pushC d (fiE (conC d)))) else endC d
def winC (c : CoL) : CoL := couC (pushC { c with ro := 2, le := c.id, wa := 0, he := 0, nx := fun _ => lastF c.lg + 1, mt := z10 } zE)
def winsF (c : CoL) : CoL × List MsL := (winC c, allF (winC c))
def askM (c : CoL) : MsL := { zM with k := 1, i := lastF c.lg, lt := (termF c.lg (lastF c.lg)).1, c := c.cm }
def standC (c : CoL) : CoL := { c with tm := c.tm + 1, ro := 1, vo := c.id, vs := withF 0 c.id, le := 0, wa := 0 }
def tickF (c0 : CoL) : CoL × List MsL :=
 let c := { c0 with wa := c0.wa + 1 }
 if c0.ro = 2 then
   let out := if c.wa % 2 = 0 then allF c else []
   (if c.wa = 10 then (if coJ (conC c) (withF c.he c.id) then { c with he := 0, wa := 0 } else yieC c) else c, out)
 else if ledF (conC c) c.id && decide (patF c.id ≤ c.wa) && decide (c.tm < 1099511627776) then
   let d := standC c
   if elJ (conC d) d.vs then winsF d
   else (d, ((listF (unF (conC d) votF)).filter (fun n => !(n == d.id))).map (fun n => sayF d n (askM d)))
 else (c, [])
def bouF (v : Int) : Int := min (max v 0) 1099511627776
def bouM (m : MsL) : MsL := { m with i := bouF m.i, c := bouF m.c, s := bouF m.s }
def deafB (c : CoL) (m : MsL) : Bool :=
 !(m.t == c.id) || !nodeB m.f || m.f == c.id || decide (m.m < 1) || decide (1099511627776 < m.m) || decide (m.k < 1) || decide (6 < m.k) ||
   (m.k == 1 && (c.ro == 2 || (!(c.le == 0) && decide (c.wa < 10))))
def termC (c : CoL) (m : MsL) : CoL := if c.tm < m.m then { c with tm := m.m, vo := 0, le := 0, ro := 0, wa := if c.ro = 2 then 0 else c.wa } else c
def staleF (c : CoL) (m : MsL) : List MsL :=
 if m.k = 1 then [sayF c m.f { zM with k := 2 }] else if m.k = 3 ∨ m.k = 5 then [sayF c m.f { zM with k := 4 }] else []
def lendAt (c : CoL) (m : MsL) : Int := if (termF c.lg m.i).2 = true ∧ (termF c.lg m.i).1 = m.lt then m.i else c.lg.b
def askF (c : CoL) (m : MsL) : CoL × List MsL :=
 let nw := newerF c.lg m.i m.lt
 if (c.vo = 0 ∨ c.vo = m.f) ∧ c.ro = 0 ∧ nw = true then
   let d := { c with vo := m.f, wa := 0 }
   (d, [sayF d m.f { zM with k := 2, y := true }])
 else if nw = true then (c, [sayF c m.f { zM with k := 2 }])
 else (c, [sayF c m.f { zM with k := 2 }, sayF c m.f { zM with k := 6, i := lendAt c m, lt := (termF c.lg (lendAt c m)).1, es := sliceF c.lg (lendAt c m + 1) 16384 }])
def takeB (c : CoL) (m : MsL) : Bool :=
 if m.k = 5 then mayJ m.j && upB m.lt c.tm
 else (m.es.all fun e => decide (e.t ≤ c.tm) && (!(e.k == 2) || mayJ e.j)) &&
   (!(mergeF c.lg m.i m.lt m.es).2.2 || (lg.mayF (mergeF c.lg m.i m.lt m.es).1 && decide ((mergeF c.lg m.i m.lt m.es).1.es.length ≤ 4096)))
def follC (c : CoL) (m : MsL) : CoL := { c with ro := 0, le := m.f, wa := 0 }
def snapF (c : CoL) (m : MsL) : CoL × List MsL :=
 let d := { c with sf := max c.sf m.s }
 if m.i ≤ d.cm then (d, [sayF d m.f { zM with k := 4, y := true, i := d.cm }])
 else
   let l : LgL := if (termF d.lg m.i).2 = true ∧ (termF d.lg m.i).1 = m.lt then { (compactF d.lg m.i).1 with j := m.j } else ⟨m.i, m.lt, m.j, []⟩
   let e := { d with lg := l, sn := m.d, cm := m.i }
   (e, [sayF e m.f { zM with k := 4, y := true, i := m.i }])
def toldF (c : CoL) (m : MsL) : CoL × List MsL :=
 if takeB c m = true then
   let r := mergeF c.lg m.i m.lt m.es
   if m.k = 6 then
     (if r.2.2 = true ∧ newerF c.lg (lastF r.1) (termF r.1 (lastF r.1)).1 = true then { c with lg := r.1, cm := min c.cm (lastF r.1) } else c, [])
   else
     let d := follC c m
     if m.k = 5 then snapF d m
     else if r.2.2 = true then
       let e := { d with lg := r.1, cm := min (max d.cm (min m.c r.2.1)) (lastF r.1), sf := max d.sf m.s }
       (e, [sayF e m.f { zM with k := 4, y := true, i := r.2.1 }])
     else (d, [sayF d m.f { zM with k := 4, i := max (min (m.i - 1) (lastF d.lg)) 0 }])
 else (c, [])
def ackF (c : CoL) (m : MsL) : CoL × List MsL :=
 if c.ro = 2 then
   let c1 := { c with he := withF c.he m.f }
   if m.y = true then
     let v := max (mtF c1 m.f) (min m.i (lastF c1.lg))
     let d := couC { c1 with mt := upd c1.mt m.f.toNat v, nx := upd c1.nx m.f.toNat (v + 1) }
     (d, if d.ro = 2 ∧ nxF d m.f ≤ lastF d.lg then [sendF d m.f] else [])
   else
     let d := { c1 with nx := upd c1.nx m.f.toNat (max (min (m.i + 1) (lastF c1.lg + 1)) (mtF c1 m.f + 1)) }
     (d, [sendF d m.f])
 else (c, [])
def voteF (c : CoL) (m : MsL) : CoL × List MsL :=
 if c.ro = 1 ∧ m.y = true then
   let d := { c with vs := withF c.vs m.f }
   if elJ (conC d) d.vs = true then winsF d else (d, [])
 else (c, [])
def stepF (c0 : CoL) (m0 : MsL) : CoL × List MsL :=
 if deafB c0 m0 = true then (c0, [])
 else
   let c := termC c0 m0
   if m0.m < c0.tm then (c, staleF c m0)
   else
     let m := bouM m0
     if m.k = 1 then askF c m
     else if m.k = 2 then voteF c m
     else if m.k = 4 then ackF c m
     else if c.ro = 2 then (c, []) else toldF c m
end Go.Proofs.Ytegnfkbmlalkeaa.cr
namespace Go.Proofs.Ytegnfkbmlalkeaa.cr
open Go.Proofs.Ytegnfkbmlalkeaa.nums Go.Proofs.Ytegnfkbmlalkeaa.se Go.Proofs.Ytegnfkbmlalkeaa.cf Go.Proofs.Ytegnfkbmlalkeaa.lg
set_option linter.unusedVariables false
theorem may_small {s : Nat} (h : se.mayF s = true) : s < 65536 := by
 have h1 := may_iff.1 h
 have : s &&& 1022 ≤ 1022 := Nat.and_le_right
 omega
theorem mayC_ok {c : CfL} (h : mayC c = true) : c.ok := by
 obtain ⟨h1, h2, h3, _, h5, h6, h7, h8, _⟩ := may_parts h
 have h9 := cntF_le (votF c)
 refine ⟨may_small h1, may_small h2, may_small h3, ?_, ?_⟩ <;> unfold In64 <;> omega
theorem mayJ_ok {j : JtL} (h : mayJ j = true) : j.ok := by
 refine ⟨mayC_ok (mayJ_a h), ?_⟩
 cases ht : j.two with
 | true => exact mayC_ok (mayJ_b h ht)
 | false =>
   unfold mayJ at h
   rw [Bool.and_eq_true, ht] at h
   have := of_decide_eq_true h.2
   rw [this]; exact zero_ok
def GoodN (d : CoL) (N : Nat) : Prop := Fit d.lg ∧ d.lg.es.length ≤ N ∧ 0 ≤ d.id ∧ d.id ≤ 9 ∧ (conC d).ok ∧ mayJ (conC d) = true ∧ d.lg.b ≤ d.cm ∧ d.cm ≤ lastF d.lg
structure GoodK (c : CoL) : Prop where
 id1 : 1 ≤ c.id
 n : GoodN c 700000
 la : lastF c.lg ≤ 2199023255550
 ro : 0 ≤ c.ro ∧ c.ro ≤ 2
 tm : 0 ≤ c.tm ∧ c.tm ≤ 1099511627776
 vo : 0 ≤ c.vo ∧ c.vo ≤ 9
 le : 0 ≤ c.le ∧ c.le ≤ 9
 wa : 0 ≤ c.wa ∧ c.wa ≤ 1099511627776
 sf : 0 ≤ c.sf ∧ c.sf ≤ 1099511627776
 nx : ∀ k : Nat, k < 10 → 0 ≤ c.nx k ∧ c.nx k ≤ 2199023255552
 mt : ∀ k : Nat, k < 10 → 0 ≤ c.mt k ∧ c.mt k ≤ lastF c.lg
 vs : c.vs < 65536
 he : c.he < 65536
end Go.Proofs.Ytegnfkbmlalkeaa.cr
namespace Go.Proofs.Ytegnfkbmlalkeaa.ref9
open Go Go.RowKit Go.Proofs.Ytegnfkbmlalkeaa.kit Go.Proofs.Ytegnfkbmlalkeaa.nums Go.Proofs.Ytegnfkbmlalkeaa.se
set_option linter.unusedVariables false
def i64s (l : List Int) : List Value := l.map (Value.int .i64)
theorem i64s_length (l : List Int) : (i64s l).length = l.length := by simp [i64s]
theorem ret_i64 {a b : Int} (h : a = b) : Ending.returned (.int .i64 a) = .returned (.int .i64 b) := by rw [h]
theorem ret_u16 {a b : Int} (h : a = b) : Ending.returned (.int .u16 a) = .returned (.int .u16 b) := by rw [h]
theorem ret_bool {a b : Bool} (h : a = b) : Ending.returned (.bool a) = .returned (.bool b) := by rw [h]
theorem infoI : (Try.prog.info? 3).map (fun i => (i.zero, i.size, i.bytes)) = some (some (.int .i64 0), 1, 8) := by kernel_rfl
theorem bit_any (n : Int) (w : World) (h0 : -9223372036854775808 ≤ n) (h1 : n ≤ 9223372036854775807) :
   Calls Try.prog 19 #[.int .i64 n] w fun e w' => e = .returned (.int .i64 (bitF n : Nat)) ∧ w = w' := by
 cases hn : nodeB n
 · rw [bitF_not hn]
   have hb : n < 1 ∨ 9 < n := nodeB_not hn
   by_cases hl : n < 1
   · go_enter Try.func19, Try.ntmps19
     go_wp2_with fail
     go_ret
     exact ⟨rfl, rfl⟩
   · have hg : 9 < n := by omega
     go_enter Try.func19, Try.ntmps19
     go_wp2_with fail
     go_ret
     exact ⟨rfl, rfl⟩
 · obtain ⟨k, rfl, k1, k9⟩ := nodeB_nat hn
   rw [bitF_node k1 k9]
   go_enter Try.func19, Try.ntmps19
   go_wp2_with fail
   go_loop [3, 4] (fun v i => ∃ (j a : Nat), j ≤ k ∧ i = .int .i64 j ∧ v = .int .i64 a ∧ a ≤ 512 ∧ Hid (a = 2 ^ j)) (fun _ i => k - (intOf i).toNat)
   case atStart => exact ⟨0, 1, by omega, rfl, rfl, by omega, rfl⟩
   case round =>
     obtain ⟨j, a, hj, rfl, rfl, ha, HA⟩ := hrel
     by_cases hlt : j < k
     · have hA2 : a * 2 = 2 ^ (j + 1) := by rw [HA.out, Nat.pow_succ]
       have hA3 : a * 2 ≤ 512 := by rw [hA2]; exact pow_le9 (by omega)
       go_wp2_with fail
       go_round
       case rel => exact ⟨j + 1, a * 2, by omega, by go_num, by go_num, hA3, hA2⟩
       case measure => simp [intOf]; omega
     · obtain rfl : j = k := by omega
       go_wp2_with fail
       go_ret
       exact ⟨ret_i64 (by rw [HA.out]; simp), rfl⟩
theorem has_any (s : Nat) (n : Int) (w : World) (hs : s < 65536) (h0 : -9223372036854775808 ≤ n) (h1 : n ≤ 9223372036854775807) :
   Calls Try.prog 9 #[.int .u16 (s : Int), .int .i64 n] w fun e w' => e = .returned (.bool (hasF s n)) ∧ w = w' := by
 have C := Lib.hid (fun w => bit_any n w h0 h1)
 cases hn : nodeB n
 · have HB := bitF_not hn
   rw [hasF_not hn]
   go_enter Try.func9, Try.ntmps9
   go_wp2_with fail
   refine (C.out _).mono ?_
   rintro e w2 ⟨rfl, rfl⟩
   rw [HB]
   go_wp2_with fail
   go_ret
   exact ⟨rfl, rfl⟩
 · have HB := bitF_pos.2 hn
   have HL := bitF_le n
   have HD := Lib.hid (hasF_div (s := s) hn)
   generalize bitF n = b at *
   have hd : s / b ≤ s := Nat.div_le_self _ _
   go_enter Try.func9, Try.ntmps9
   go_wp2_with fail
   refine (C.out _).mono ?_
   rintro e w2 ⟨rfl, rfl⟩
   go_wp2_with fail
   refine (C.out _).mono ?_
   rintro e w2 ⟨rfl, rfl⟩
   go_wp2_with fail
   go_ret
   refine ⟨ret_bool ?_, rfl⟩
   rw [HD.out]
   have e : wrap64 ((s : Int) / (b : Int)) = ((s / b : Nat) : Int) := by
     rw [← Int.natCast_ediv]
     generalize s / b = x at *
     unfold wrap64
     omega
   rw [e]
   rw [Int.tmod_eq_emod_of_nonneg (Int.natCast_nonneg _)]
   generalize s / b = x at *
   rw [Bool.eq_iff_iff, decide_eq_true_eq, beq_iff_eq]
   omega
def IsIs (W : World) (l : List Int) (e : Ending) (w' : World) : Prop := ∃ A c, e = .returned (.slice A l.length c) ∧ OwnV 3 w' W.heap.size (.slice A l.length c) (i64s l) ∧ Below W.heap.size W w'
theorem i64s_append (l m : List Int) : i64s (l ++ m) = i64s l ++ i64s m := by simp [i64s]
theorem with_any (s : Nat) (n : Int) (w : World) (hs : s < 65536) (h0 : -9223372036854775808 ≤ n) (h1 : n ≤ 9223372036854775807) :
   Calls Try.prog 13 #[.int .u16 (s : Int), .int .i64 n] w fun e w' => e = .returned (.int .u16 ((withF s n : Nat) : Int)) ∧ w = w' := by
 have C := Lib.hid (fun w => has_any s n w hs h0 h1)
 have B := Lib.hid (fun w => bit_any n w h0 h1)
 have HW := withF_lt n hs
 have HL := bitF_le n
 cases hn : hasF s n
 · have HA := withF_add hn
   rw [hn] at C
   generalize withF s n = z at *
   generalize bitF n = b at *
   go_enter Try.func13, Try.ntmps13
   go_wp2_with fail
   refine (C.out _).mono ?_
   rintro e w2 ⟨rfl, rfl⟩
   go_wp2_with fail
   refine (B.out _).mono ?_
   rintro e w2 ⟨rfl, rfl⟩
   go_wp2_with fail
   go_ret
   exact ⟨ret_u16 (by omega), rfl⟩
 · have HA := withF_has hn
   rw [hn] at C
   rw [HA]
   go_enter Try.func13, Try.ntmps13
   go_wp2_with fail
   refine (C.out _).mono ?_
   rintro e w2 ⟨rfl, rfl⟩
   go_wp2_with fail
   go_ret
   exact ⟨rfl, rfl⟩
theorem list_node {s : Nat} {n : Int} (h : n ∈ listF s) : 1 ≤ n ∧ n ≤ 9 := by
 obtain ⟨j, rfl, h1, h2, _⟩ := listTo_mem h (by omega)
 omega
theorem list_len (s : Nat) : (listF s).length ≤ 9 := listTo_le s 9
theorem take_get {l : List Int} {j : Nat} {n : Int} (h : l[j]? = some n) : l.take (j + 1) = l.take j ++ [n] := by
 obtain ⟨hj, rfl⟩ := List.getElem?_eq_some_iff.1 h
 exact List.take_succ_eq_append_getElem hj
theorem rdv_at {w : World} {B : Nat} {A : Option Addr} {k : Nat} {l : List Int} (h : RdV w B A k (i64s l)) (j : Nat) (hj : j < k) :
   ∃ p o n, A = some ⟨p, o, none⟩ ∧ l[j]? = some n ∧ w.cell? ⟨p, o + j, none⟩ = some (.int .i64 n) := by
 obtain ⟨p, o, u, rfl, hu, hc⟩ := h.at_ hj
 obtain ⟨n, hn, rfl⟩ : ∃ n, l[j]? = some n ∧ Value.int .i64 n = u := by
   simp only [i64s, List.getElem?_map, Option.map_eq_some_iff] at hu
   exact hu
 exact ⟨p, o, n, rfl, hn, hc⟩
end Go.Proofs.Ytegnfkbmlalkeaa.ref9
namespace Go.Proofs.Ytegnfkbmlalkeaa.cr
open Go.Proofs.Ytegnfkbmlalkeaa.nums Go.Proofs.Ytegnfkbmlalkeaa.se Go.Proofs.Ytegnfkbmlalkeaa.cf Go.Proofs.Ytegnfkbmlalkeaa.lg
set_option linter.unusedVariables false
theorem mem_listTo {s k j : Nat} (h1 : 1 ≤ j) (hj : j ≤ k) (hb : s.testBit j = true) : (j : Int) ∈ listTo s k := by
 induction k with
 | zero => omega
 | succ k ih =>
   simp only [listTo]
   by_cases e : j = k + 1
   · subst e; rw [if_pos hb]; simp
   · have := ih (by omega)
     split
     · exact List.mem_append_left _ this
     · exact this
theorem list_iff {s : Nat} {n : Int} : n ∈ listF s ↔ hasF s n = true := by
 constructor
 · intro h
   obtain ⟨j, rfl, h1, h9, hb⟩ := listTo_mem h (by omega)
   rw [hasF_node h1 h9]; exact hb
 · intro h
   obtain ⟨k, rfl, h1, h9⟩ := nodeB_nat (has_node h)
   rw [hasF_node h1 h9] at h
   exact mem_listTo h1 h9 h
theorem list_some {s : Nat} (h0 : s ≠ 0) (hm : se.mayF s = true) : listF s ≠ [] := by
 intro h
 have h2 := ofF_list s
 rw [h] at h2
 have h3 := may_iff.1 hm
 rw [h3] at h2
 exact h0 (Option.some.inj h2).symm
theorem leastL_spec (c : CoL) : ∀ (l : List Int) (s : Int), (∀ v ∈ l, 0 ≤ mtF c v) →
   ((0 ≤ s ∨ l ≠ []) → 0 ≤ leastL c s l) ∧ (0 ≤ s → leastL c s l ≤ s) ∧ (∀ v ∈ l, leastL c s l ≤ mtF c v) ∧ (leastL c s l = s ∨ ∃ v ∈ l, leastL c s l = mtF c v)
 | [], s, _ => ⟨fun h => h.elim id (fun e => absurd rfl e), fun _ => Int.le_refl _, (fun v h => by cases h), .inl rfl⟩
 | v :: l, s, h => by
   have hv := h v (List.mem_cons_self ..)
   show ((0 ≤ s ∨ v :: l ≠ []) → 0 ≤ leastL c (if s < 0 ∨ mtF c v < s then mtF c v else s) l) ∧ (0 ≤ s → leastL c (if s < 0 ∨ mtF c v < s then mtF c v else s) l ≤ s) ∧ (∀ u ∈ v :: l, leastL c (if s < 0 ∨ mtF c v < s then mtF c v else s) l ≤ mtF c u) ∧ (leastL c (if s < 0 ∨ mtF c v < s then mtF c v else s) l = s ∨ ∃ u ∈ v :: l, leastL c (if s < 0 ∨ mtF c v < s then mtF c v else s) l = mtF c u)
   obtain ⟨s', hs'⟩ : ∃ q, (if s < 0 ∨ mtF c v < s then mtF c v else s) = q := ⟨_, rfl⟩
   have h0 : 0 ≤ s' ∧ s' ≤ mtF c v ∧ (0 ≤ s → s' ≤ s) ∧ (s' = s ∨ s' = mtF c v) := by
     rw [← hs']; split <;> omega
   rw [hs']
   obtain ⟨i1, i2, i3, i4⟩ := leastL_spec c l s' (fun u hu => h u (List.mem_cons_of_mem _ hu))
   refine ⟨fun _ => i1 (.inl h0.1), fun hs => Int.le_trans (i2 h0.1) (h0.2.2.1 hs), fun u hu => ?_, ?_⟩
   · rcases List.mem_cons.1 hu with rfl | hu
     · exact Int.le_trans (i2 h0.1) h0.2.1
     · exact i3 u hu
   · rcases i4 with e | ⟨u, hu, e⟩
     · rcases h0.2.2.2 with e2 | e2
       · exact .inl (e.trans e2)
       · exact .inr ⟨v, List.mem_cons_self .., e.trans e2⟩
     · exact .inr ⟨u, List.mem_cons_of_mem _ hu, e⟩
def lmTo (c : CoL) (j : JtL) : Nat → Int
 | 0 => lastF c.lg
 | k + 1 => if ledF j ((k + 1 : Nat) : Int) = true then min (lmTo c j k) (mtF c ((k + 1 : Nat) : Int)) else lmTo c j k
theorem lm_spec (c : CoL) (j : JtL) : ∀ k : Nat, lmTo c j k ≤ lastF c.lg ∧ (∀ i : Nat, 1 ≤ i → i ≤ k → ledF j (i : Int) = true → lmTo c j k ≤ mtF c (i : Int)) ∧ (lmTo c j k = lastF c.lg ∨ ∃ i : Nat, ledF j (i : Int) = true ∧ lmTo c j k = mtF c (i : Int))
 | 0 => ⟨Int.le_refl _, fun i h1 h2 => by omega, .inl rfl⟩
 | k + 1 => by
   obtain ⟨i1, i2, i3⟩ := lm_spec c j k
   by_cases hl : ledF j ((k + 1 : Nat) : Int) = true
   · have e : lmTo c j (k + 1) = min (lmTo c j k) (mtF c ((k + 1 : Nat) : Int)) := if_pos hl
     rw [e]
     refine ⟨by omega, fun i h1 h2 h3 => ?_, ?_⟩
     · by_cases he : i = k + 1
       · subst he; omega
       · have := i2 i h1 (by omega) h3; omega
     · by_cases hm : lmTo c j k ≤ mtF c ((k + 1 : Nat) : Int)
       · rw [show min (lmTo c j k) (mtF c ((k + 1 : Nat) : Int)) = lmTo c j k by omega]; exact i3
       · exact .inr ⟨k + 1, hl, by omega⟩
   · have e : lmTo c j (k + 1) = lmTo c j k := if_neg hl
     rw [e]
     refine ⟨i1, fun i h1 h2 h3 => ?_, i3⟩
     by_cases he : i = k + 1
     · subst he; exact absurd h3 hl
     · exact i2 i h1 (by omega) h3
theorem led_list {j : JtL} {n : Int} : ledF j n = true ↔ n ∈ listF j.a.v ∨ (j.two = true ∧ n ∈ listF j.b.v) := by
 unfold ledF unF
 cases ht : j.two
 · simp [list_iff]
 · simp [has_or, list_iff]
def Mt (c : CoL) : Prop := ∀ k : Nat, k < 10 → 0 ≤ c.mt k ∧ c.mt k ≤ lastF c.lg
theorem leastC_lm {c : CoL} (hj : mayJ (conC c) = true) (hm : Mt c) : leastC c = lmTo c (conC c) 9 := by
 have hn : ∀ n : Int, ledF (conC c) n = true → 1 ≤ n ∧ n ≤ 9 := fun n h => by
   obtain ⟨k, rfl, h1, h9⟩ := nodeB_nat (has_node h)
   omega
 have hmt : ∀ n : Int, ledF (conC c) n = true → 0 ≤ mtF c n ∧ mtF c n ≤ lastF c.lg := fun n h => by
   have := hn n h
   exact hm n.toNat (by omega)
 have hva := list_some (may_parts (mayJ_a hj)).2.2.2.1 (may_parts (mayJ_a hj)).1
 obtain ⟨n0, hn0⟩ := List.exists_mem_of_ne_nil _ hva
 have hl0 : ledF (conC c) n0 = true := led_list.2 (.inl hn0)
 have hA : (∀ n, ledF (conC c) n = true → leastC c ≤ mtF c n) ∧ ∃ n, ledF (conC c) n = true ∧ leastC c = mtF c n := by
   have ha := leastL_spec c (listF (conC c).a.v) (-1) (fun v hv => (hmt v (led_list.2 (.inl hv))).1)
   obtain ⟨a1, a2, a3, a4⟩ := ha
   have hp := a1 (.inr hva)
   cases ht : (conC c).two
   · have e : leastC c = leastL c (-1) (listF (conC c).a.v) := by unfold leastC twoF; rw [ht]; rfl
     rw [e]
     refine ⟨fun n h => ?_, ?_⟩
     · rcases led_list.1 h with h | h
       · exact a3 n h
       · rw [ht] at h; exact absurd h.1 (by decide)
     · rcases a4 with h | ⟨v, hv, h⟩
       · omega
       · exact ⟨v, led_list.2 (.inl hv), h⟩
   · have e : leastC c = leastL c (leastL c (-1) (listF (conC c).a.v)) (listF (conC c).b.v) := by unfold leastC twoF; rw [ht]; rfl
     rw [e]
     obtain ⟨b1, b2, b3, b4⟩ := leastL_spec c (listF (conC c).b.v) (leastL c (-1) (listF (conC c).a.v)) (fun v hv => (hmt v (led_list.2 (.inr ⟨ht, hv⟩))).1)
     refine ⟨fun n h => ?_, ?_⟩
     · rcases led_list.1 h with h | h
       · exact Int.le_trans (b2 hp) (a3 n h)
       · exact b3 n h.2
     · rcases b4 with h | ⟨v, hv, h⟩
       · rcases a4 with h2 | ⟨v, hv, h2⟩
         · omega
         · exact ⟨v, led_list.2 (.inl hv), h.trans h2⟩
       · exact ⟨v, led_list.2 (.inr ⟨ht, hv⟩), h⟩
 obtain ⟨l1, l2, l3⟩ := lm_spec c (conC c) 9
 have l2' : ∀ n, ledF (conC c) n = true → lmTo c (conC c) 9 ≤ mtF c n := fun n h => by
   have h9 := hn n h
   have := l2 n.toNat (by omega) (by omega) (by rw [Int.toNat_of_nonneg (by omega)]; exact h)
   rwa [Int.toNat_of_nonneg (by omega)] at this
 obtain ⟨n1, hl1, e1⟩ := hA.2
 apply Int.le_antisymm
 · rcases l3 with e | ⟨i, hi, e⟩
   · rw [e, e1]; exact (hmt n1 hl1).2
   · rw [e]; exact hA.1 _ hi
 · rw [e1]; exact l2' n1 hl1
end Go.Proofs.Ytegnfkbmlalkeaa.cr
namespace Go.Proofs.Ytegnfkbmlalkeaa.law0
open Go.RowKit Go.Proofs.Ytegnfkbmlalkeaa.kit Go.Proofs.Ytegnfkbmlalkeaa.nums Go.Proofs.Ytegnfkbmlalkeaa.bytes
set_option linter.unusedVariables false
def placeF (k n : Int) : Int := if n < 1 then 0 else k % n
theorem place_in (k n : Int) (h : 1 ≤ n) : 0 ≤ placeF k n ∧ placeF k n < n := by
 unfold placeF; rw [if_neg (by omega)]
 exact ⟨Int.emod_nonneg _ (by omega), Int.emod_lt_of_pos _ (by omega)⟩
theorem place_any (k n : Int) (w : World) (h0 : -9223372036854775808 ≤ k) (h1 : k ≤ 9223372036854775807) (hn : n ≤ 9223372036854775807) :
   Calls Try.prog 6 #[.int .i64 k, .int .i64 n] w fun e w' => e = .returned (.int .i64 (placeF k n)) ∧ w = w' := by
 by_cases h : n < 1
 · have HP := Lib.hid (show placeF k n = 0 from if_pos h)
   go_enter Try.func6, Try.ntmps6
   go_wp2_with fail
   go_ret
   exact ⟨by rw [HP.out]; rfl, rfl⟩
 · have hz : ¬ n = 0 := by omega
   have HP := Lib.hid (show placeF k n = k % n from if_neg h)
   have e1 := Int.emod_nonneg k hz
   have e2 := Int.emod_lt_of_pos k (show 0 < n by omega)
   have ht : k.tmod n = k % n ∨ k.tmod n = k % n - n ∧ k % n ≠ 0 := by
     rw [Int.tmod_eq_emod]
     split
     · left; simp
     · rename_i hd
       right
       rw [show ((n.natAbs : Nat) : Int) = n by omega]
       exact ⟨rfl, fun h => hd (.inr (Int.dvd_of_emod_eq_zero h))⟩
   have ht2 : (0 ≤ k.tmod n ∧ placeF k n = k.tmod n) ∨ (k.tmod n < 0 ∧ -n < k.tmod n ∧ placeF k n = k.tmod n + n) := by
     rw [HP.out]
     generalize k % n = r at *
     generalize k.tmod n = q at *
     omega
   clear ht e1 e2 HP
   generalize hq : k.tmod n = q at *
   rcases ht2 with ⟨h2, h3⟩ | ⟨h2, h4, h3⟩
   · have HP := Lib.hid h3
     clear h3
     go_enter Try.func6, Try.ntmps6
     go_wp2_with fail
     go_ret
     exact ⟨by rw [HP.out]; rfl, rfl⟩
   · have HP := Lib.hid h3
     clear h3
     go_enter Try.func6, Try.ntmps6
     go_wp2_with fail
     go_ret
     exact ⟨by rw [HP.out]; rfl, rfl⟩
def TwinsOf (w : World) (base : Nat) (xs : List Value) (L : List (List Int)) : Prop :=
 ∀ (j : Nat) (x : Value) (l : List Int), xs[j]? = some x → L[j]? = some l → ∃ g, x = .slice (some ⟨g, 0, none⟩) l.length (l.length + 3) ∧ IsTwin w g l ∧ base ≤ g
theorem TwinsOf.below {w w' : World} {base : Nat} {xs : List Value} {L : List (List Int)} (h : TwinsOf w base xs L) (hb : Below w.heap.size w w') : TwinsOf w' base xs L := fun j x l hx hl => by
 obtain ⟨g, e, hT, hg⟩ := h j x l hx hl
 exact ⟨g, e, hT.below hb hT.lt, hg⟩
def SlsOf (w : World) (B : Nat) (xs : List Value) (L : List (List Int)) : Prop := ∀ (j : Nat) (x : Value) (l : List Int), xs[j]? = some x → L[j]? = some l → Sl w B x l
theorem SlsOf.one {w : World} {B : Nat} {x : Value} {l : List Int} (hx : Sl w B x l) : SlsOf w B [x] [l] := fun i y m hy hm => by
 match i with
 | 0 => simp at hy hm; subst hy; subst hm; exact hx
 | i + 1 => simp at hy
end Go.Proofs.Ytegnfkbmlalkeaa.law0
namespace Go.Proofs.Ytegnfkbmlalkeaa.frame
open Go Go.ChangeShapes Go.WideShapes Go.ChangeAt Go.RowKit Go.Proofs.Ytegnfkbmlalkeaa.kit Go.Proofs.Ytegnfkbmlalkeaa.nums
set_option linter.unusedVariables false
theorem fours {α : Type} (l : List α) (h : l.length = 4) : ∃ a0 a1 a2 a3, l = [a0, a1, a2, a3] := by
 match l, h with
 | [a0, a1, a2, a3], _ => exact ⟨a0, a1, a2, a3, rfl⟩
theorem u8c_of_trod {H : Type} {enc : TypeId × Value → H} {W : World} {n : Nat} {v : Value} {y : DataW H × List MemPlace} (h : DataW.trod enc Try.prog W 0 (fun _ => true) true n 5 [v] = some y) : ∃ z : Nat, v = .int .u8 (z : Int) ∧ z < 256 := by
 obtain ⟨z, h1, _, hw⟩ := DataW.trod_int Try.underlying5 h
 simp at h1
 have hb : 0 ≤ z ∧ z ≤ 255 := by simpa [Lit.wf, IntKind.min, IntKind.max, IntKind.signed, IntKind.bits] using hw
 exact ⟨z.toNat, by rw [h1]; congr 1; omega, by omega⟩
theorem sh_of_trod {H : Type} {enc : TypeId × Value → H} {W : World} {cs : Array Value} {d : DataW H} {p : List MemPlace} (h : DataW.Trod enc Try.prog W 0 (fun _ => true) true 23 (.agg cs) d p) : ∃ a b c e : Nat, cs = #[.int .u8 (a : Int), .int .u8 (b : Int), .int .u8 (c : Int), .int .u8 (e : Int)] ∧ a < 256 ∧ b < 256 ∧ c < 256 ∧ e < 256 := by
 obtain ⟨fuel, hf⟩ := h
 simp only [Value.cells] at hf
 obtain ⟨l, hl⟩ : ∃ l, cs.toList = l := ⟨_, rfl⟩
 rw [hl] at hf
 suffices hs : ∃ a b c e : Nat, l = [.int .u8 (a : Int), .int .u8 (b : Int), .int .u8 (c : Int), .int .u8 (e : Int)] ∧ a < 256 ∧ b < 256 ∧ c < 256 ∧ e < 256 by
   obtain ⟨a, b, c, e, h1, h2⟩ := hs
   exact ⟨a, b, c, e, by apply Array.toList_inj.1; rw [hl, h1], h2⟩
 clear hl
 obtain ⟨xs, m, _, _, hl, hxl, hF⟩ := DataW.trod_struct Try.underlying23 hf
 have hc : Try.prog.cellsOf 23 = 4 := by kernel_rfl
 rw [hc] at hl
 obtain ⟨c0, c1, c2, c3, rfl⟩ := fours l hl
 obtain ⟨y0, y1, y2, y3, rfl⟩ := fours xs hxl
 have k8 : Try.prog.cellsOf 5 = 1 := by kernel_rfl
 have f0 : DataW.trod enc Try.prog W 0 (fun _ => true) true m 5 [c0] = some y0 := by have h := hF 0 { name := "Voters", type := 5, offset := 0, embedded := false, tag := "", pkgPath := "", byteOffset := 0 } rfl; dsimp only at h; rw [k8] at h; exact h
 have f1 : DataW.trod enc Try.prog W 0 (fun _ => true) true m 5 [c1] = some y1 := by have h := hF 1 { name := "Witnesses", type := 5, offset := 1, embedded := false, tag := "", pkgPath := "", byteOffset := 1 } rfl; dsimp only at h; rw [k8] at h; exact h
 have f2 : DataW.trod enc Try.prog W 0 (fun _ => true) true m 5 [c2] = some y2 := by have h := hF 2 { name := "Learners", type := 5, offset := 2, embedded := false, tag := "", pkgPath := "", byteOffset := 2 } rfl; dsimp only at h; rw [k8] at h; exact h
 have f3 : DataW.trod enc Try.prog W 0 (fun _ => true) true m 5 [c3] = some y3 := by have h := hF 3 { name := "Elect", type := 5, offset := 3, embedded := false, tag := "", pkgPath := "", byteOffset := 3 } rfl; dsimp only at h; rw [k8] at h; exact h
 obtain ⟨z0, rfl, b0⟩ := u8c_of_trod f0
 obtain ⟨z1, rfl, b1⟩ := u8c_of_trod f1
 obtain ⟨z2, rfl, b2⟩ := u8c_of_trod f2
 obtain ⟨z3, rfl, b3⟩ := u8c_of_trod f3
 exact ⟨z0, z1, z2, z3, rfl, b0, b1, b2, b3⟩
end Go.Proofs.Ytegnfkbmlalkeaa.frame
