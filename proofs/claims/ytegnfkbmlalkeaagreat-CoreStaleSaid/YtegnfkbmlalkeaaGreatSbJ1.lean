/- What the statements' helpers on lists of byte slices do: Place, Sum, Joined, Twins, AllKept. Conditions: lengths are at most 2^40. -/
import Derived.Handy
import Derived.Laws.Slices
import Derived.ArgAppend
import Derived.Laws.StructEq
import Derived.Test.YtegnfkbmlalkeaaGreatProg
import Derived.Test.YtegnfkbmlalkeaaGreatRows
import Derived.ProofKit
import Derived.OpenShut
import Derived.Outline
import Derived.Deep.RegionWith
import Derived.Deep.RegionHeld3
import Derived.Test.YtegnfkbmlalkeaaGreatSbKitV
import Derived.Test.YtegnfkbmlalkeaaGreatSbSe
import Derived.Test.YtegnfkbmlalkeaaGreatSbJ0
namespace Go.Proofs.YtegnfkbmlalkeaaGreat.kit
open Go Go.RowKit Go.Proofs.YtegnfkbmlalkeaaGreat.nums
set_option linter.unusedVariables false
def At (w : World) (b o : Nat) (l : List Value) : Prop := ∀ j u, l[j]? = some u → w.cell? ⟨b, o + j, none⟩ = some u
section
variable {w w' : World} {B B' : Nat}
theorem At.below {b o : Nat} {l : List Value} (h : At w b o l) (hlt : b < B) (hb : Below B w w') : At w' b o l := fun j u hu => (hb.cell (p := ⟨b, o + j, none⟩) hlt).trans (h j u hu)
theorem At.cells {b o : Nat} {l : List Value} (h : At w b o l) (j : Nat) (u : Value) (hu : l[j]? = some u) : w.cell? ⟨b, o + j, none⟩ = some u := h j u hu
end
theorem flat_get {α : Type} (f : α → List Value) (k : Nat) (hf : ∀ x, (f x).length = k) : ∀ (l : List α) (j i : Nat) (x : α), l[j]? = some x → i < k → (l.flatMap f)[j * k + i]? = (f x)[i]?
 | [], j, i, x, h, _ => by cases h
 | y :: l, 0, i, x, h, hi => by
   obtain rfl := Option.some.inj h
   rw [List.flatMap_cons, Nat.zero_mul, Nat.zero_add, List.getElem?_append_left (by rw [hf]; exact hi)]
 | y :: l, j + 1, i, x, h, hi => by
   rw [List.flatMap_cons, List.getElem?_append_right (by rw [hf, Nat.succ_mul]; omega), hf, show (j + 1) * k + i - k = j * k + i by rw [Nat.succ_mul]; omega]
   exact flat_get f k hf l j i x h hi
theorem flat_length {α : Type} (f : α → List Value) (k : Nat) (hf : ∀ x, (f x).length = k) : ∀ l : List α, (l.flatMap f).length = l.length * k
 | [] => by simp
 | y :: l => by rw [List.flatMap_cons, List.length_append, hf, flat_length f k hf l, List.length_cons, Nat.succ_mul]; omega
def RdK (w : World) (B : Nat) (A : Option Addr) (m k : Nat) (l : List Value) : Prop := l.length = m * k ∧ (0 < m → ∃ b o, A = some ⟨b, o, none⟩ ∧ b < B ∧ At w b o l)
theorem run_append_src_none_k {P : Program} (w : World) (base : Nat) (t ty e : TypeId) (i : TypeInfo) (k : Nat) (ht : P.underlying t = some (.slice e)) (hi : P.info? e = some i)
   (v : Value) (n : Nat) (xs : List Value) (hown : w.ownsRow base e k v n xs) (c : Nat) :
   (Builtin.append_ #[t, t] ty #[v, .slice none 0 c]).run P w = .ok v w := by
 rcases hown.2 with ⟨rfl, rfl⟩ | ⟨g, cap, cur, rfl, _, _, hnc, _⟩
 · simp [Builtin.append_, run_underlying ht, sizeOf, typeInfo, hi, Builtin.lenOf, Builtin.firstCells]
 · simp [Builtin.append_, run_underlying ht, sizeOf, typeInfo, hi, Builtin.lenOf, Builtin.firstCells, hnc, storeCells]
theorem run_append_k {P : Program} (w : World) (base : Nat) (t ty e : TypeId) (z : Value) (k by_ : Nat) (ht : P.underlying t = some (.slice e)) (h2 : (P.info? e).map (fun i => (i.zero, i.size, i.bytes)) = some (some z, k, by_)) (hz : z.cells.size = k) (hk : 0 < k)
   (A : Option Addr) (n c : Nat) (xs : List Value) (hown : w.ownsRow base e k (.slice A n c) n xs)
   (B : Nat) (X : Option Addr) (m xc : Nat) (news : List Value) (hR : RdK w B X m k news) (h1 : ∀ u ∈ news, u.oneCell' = true) (hb : (n + m) * by_ ≤ 140737488355328) (h63 : n + m ≤ maxLen) (hbase : base ≤ w.heap.size) :
   ∃ A' c' w', (Builtin.append_ #[t, t] ty #[.slice A n c, .slice X m xc]).run P w = .ok (.slice A' (n + m) c') w' ∧ w'.ownsRow base e k (.slice A' (n + m) c') (n + m) (xs ++ news) ∧ Below base w w' ∧ w.grownBy w' (Value.ownBlock (.slice A n c)) := by
 obtain ⟨i, hi, hz0, hz1, hz2⟩ := info_parts h2
 have hm : news.length = m * k := hR.1
 have hfin : ∀ (v' : Value) (w' : World), w'.ownsRow base e k v' (n + m) (xs ++ news) → w.grownBy w' (Value.ownBlock (.slice A n c)) → ∃ A' c', v' = .slice A' (n + m) c' ∧ w'.ownsRow base e k (.slice A' (n + m) c') (n + m) (xs ++ news) ∧ Below base w w' := by
   intro v' w' h hg
   have hB : Below base w w' := (Below.refl base w).grown hg hbase (fun q hq => (hown.lt q hq).1)
   rcases h.2 with ⟨hv, hn⟩ | ⟨g, cap, cur, hv, _⟩
   · exact ⟨none, 0, by rw [hv, hn], by rw [hn] at h ⊢; rw [hv] at h; exact h, hB⟩
   · exact ⟨_, cap, hv, by rw [← hv]; exact h, hB⟩
 rcases X with _ | ad
 · have hm0 : m = 0 := by
     rcases Nat.eq_zero_or_pos m with h0 | h0
     · exact h0
     · obtain ⟨b, o, h, _⟩ := hR.2 h0
       cases h
   subst hm0
   have hnews : news = [] := List.eq_nil_of_length_eq_zero (by rw [hm]; omega)
   subst hnews
   refine ⟨A, c, w, run_append_src_none_k w base t ty e i k ht hi _ n xs hown xc, ?_, Below.refl _ _, World.grownBy.refl _ _⟩
   simpa using hown
 · rcases Nat.eq_zero_or_pos m with h0 | h0
   · subst h0
     have hnews : news = [] := List.eq_nil_of_length_eq_zero (by rw [hm]; omega)
     subst hnews
     obtain ⟨v', w', hrun, h3, h4, _⟩ := run_append_own (P := P) w base t ty e i z k by_ ht hi hz0 hz1 hz2 hz hk _ n xs hown ad 0 xc [] (by simp) (fun j u h => by cases h) (fun u h => by cases h) h63 hb hbase
     obtain ⟨A', c', rfl, hO, hB⟩ := hfin v' w' h3 h4
     exact ⟨A', c', w', hrun, hO, hB, h4⟩
   · obtain ⟨b, o, e0, _, hA⟩ := hR.2 h0
     injection e0 with e0
     subst e0
     have hcells : ∀ j u, news[j]? = some u → w.cell? ((⟨b, o, none⟩ : Addr).add j) = some u := fun j u hu => by
       rw [Addr.add_lit]
       exact hA j u hu
     obtain ⟨v', w', hrun, h3, h4, _⟩ := run_append_own (P := P) w base t ty e i z k by_ ht hi hz0 hz1 hz2 hz hk _ n xs hown ⟨b, o, none⟩ m xc news hm hcells h1 h63 hb hbase
     obtain ⟨A', c', rfl, hO, hB⟩ := hfin v' w' h3 h4
     exact ⟨A', c', w', hrun, hO, hB, h4⟩
theorem wpList_append_k {P : Program} {w : World} {ops : Array Oper} {rest : List Oper} {o : Oper} {a : Act} {Q : Exit → Act → World → Prop} (hgd : o.guard = none) (s x : Operand) (t : TypeId)
   (ho : o.op = .call { callee := .builtin .append, args := #[s, x], argTypes := #[t, t] }) (base : Nat) (e : TypeId) (z : Value) (k by_ : Nat) (ht : P.underlying t = some (.slice e)) (h2 : (P.info? e).map (fun i => (i.zero, i.size, i.bytes)) = some (some z, k, by_)) (hz : z.cells.size = k) (hk : 0 < k)
   (A : Option Addr) (n c : Nat) (xs : List Value) (hs : a.eval s = .slice A n c) (hown : w.ownsRow base e k (.slice A n c) n xs)
   (B : Nat) (X : Option Addr) (m xc : Nat) (news : List Value) (hx : a.eval x = .slice X m xc) (hR : RdK w B X m k news) (h1 : ∀ u ∈ news, u.oneCell' = true) (hb : (n + m) * by_ ≤ 140737488355328) (h63 : n + m ≤ maxLen) (hbase : base ≤ w.heap.size)
   (h : ∀ A' c' w', w'.ownsRow base e k (.slice A' (n + m) c') (n + m) (xs ++ news) → Below base w w' → w.grownBy w' (Value.ownBlock (.slice A n c)) → wpList P ops Q rest (a.put o.dst (.slice A' (n + m) c')) w') : wpList P ops Q (o :: rest) a w := by
 refine wpList_plain hgd fun K hK => ?_
 obtain ⟨A', c', w', hrun, h3, h4, h5⟩ := run_append_k (P := P) w base t o.type e z k by_ ht h2 hz hk A n c xs hown B X m xc news hR h1 hb h63 hbase
 unfold Oper.wp execOp
 simp only [ho, resolve, invoke, builtin, Sem.run_bind, Sem.run_pure, Result.andThen_ok, List.map_toArray, List.map_cons, List.map_nil, hs, hx, hrun]
 exact hK _ _ (h A' c' w' h3 h4 h5)
section
variable {w w' : World}
theorem lt_of_block {g : Nat} {o : Obj} (h : w.heap[g]? = some o) : g < w.heap.size := (Array.getElem?_eq_some_iff.1 h).1
theorem At.same {b o : Nat} {l : List Value} (h : At w b o l) (hb : w'.heap[b]? = w.heap[b]?) : At w' b o l := fun j u hu => (World.cell?_of_block (a := ⟨b, o + j, none⟩) hb).trans (h j u hu)
end
theorem at_new (w : World) (E : TypeId) (l : List Value) : At (w.alloc (.cells l.toArray E)) w.heap.size 0 l := fun q u hu => by
 have k : Blk E (w.alloc (.cells l.toArray E)) w.heap.size l := heap_alloc_new w _
 rw [Nat.zero_add, k.cell q]
 exact hu
end Go.Proofs.YtegnfkbmlalkeaaGreat.kit
namespace Go.Proofs.YtegnfkbmlalkeaaGreat.kit
open Go.RowKit
set_option linter.unusedVariables false
def OwnsOf (E : TypeId) (w : World) (base : Nat) (xs : List Value) (L : List (List Int)) : Prop :=
 (∀ (j : Nat) (x : Value) (l : List Int), xs[j]? = some x → L[j]? = some l → Own E w base x l) ∧
 (∀ (i j : Nat) (x y : Value) (k : Nat), i ≠ j → xs[i]? = some x → xs[j]? = some y → x.ownBlock = some k → y.ownBlock ≠ some k)
section
variable {E : TypeId} {w w' : World} {base base' : Nat} {xs : List Value} {L : List (List Int)}
theorem OwnsOf.nil (E : TypeId) (w : World) (base : Nat) : OwnsOf E w base [] [] := ⟨fun j x l h => by simp at h, fun i j x y k _ h => by simp at h⟩
theorem OwnsOf.below (h : OwnsOf E w base xs L) (hb : Below w.heap.size w w') : OwnsOf E w' base xs L := ⟨fun j x l hx hl => (h.1 j x l hx hl).below hb, h.2⟩
theorem OwnsOf.more (h : OwnsOf E w base xs L) (hB : base' ≤ base) : OwnsOf E w base' xs L := ⟨fun j x l hx hl => (h.1 j x l hx hl).more hB, h.2⟩
theorem Own.grown {k : Option Nat} {v : Value} {l : List Int} (h : Own E w base v l) (hG : w.grownBy w' k) (hne : ∀ g, v.ownBlock = some g → k ≠ some g) : Own E w' base v l := by
 refine ⟨h.1, ?_⟩
 rcases h.2 with hn | ⟨g, cap, cur, rfl, hb, hg, r⟩
 · exact .inl hn
 · exact .inr ⟨g, cap, cur, rfl, hb, by rw [hG.block g (Array.getElem?_eq_some_iff.1 hg).1 (fun e => hne g rfl e.symm)]; exact hg, r⟩
theorem own_apart {E' : TypeId} (hE : E ≠ E') {v u : Value} {l : List Int} {ys : List Value} {b2 g : Nat} (h : Own E w base v l) (hO : OwnV E' w b2 u ys) (hg : v.ownBlock = some g) : u.ownBlock ≠ some g := by
 intro hu
 rcases h.2 with ⟨hv, _⟩ | ⟨g1, cap, cur, hv, _, hh, _⟩
 · rw [hv] at hg; simp [Value.ownBlock] at hg
 · rcases hO.2 with ⟨hv2, _⟩ | ⟨g2, cap2, cur2, hv2, _, hh2, _⟩
   · rw [hv2] at hu; simp [Value.ownBlock] at hu
   · rw [hv] at hg
     rw [hv2] at hu
     have e1 : g1 = g := by simpa [Value.ownBlock] using hg
     have e2 : g2 = g := by simpa [Value.ownBlock] using hu
     subst e1
     subst e2
     rw [hh] at hh2
     simp only [Option.some.injEq, Obj.cells.injEq] at hh2
     exact hE hh2.2.1
theorem OwnsOf.grown {E' : TypeId} (hE : E ≠ E') {v : Value} {ys : List Value} {b2 : Nat} (h : OwnsOf E w base xs L) (hO : OwnV E' w b2 v ys) (hG : w.grownBy w' v.ownBlock) : OwnsOf E w' base xs L :=
 ⟨fun j x l hx hl => (h.1 j x l hx hl).grown hG (fun g hg => own_apart hE (h.1 j x l hx hl) hO hg), h.2⟩
end
theorem OwnV.grown {E : TypeId} {w w' : World} {base : Nat} {k : Option Nat} {v : Value} {xs : List Value} (h : OwnV E w base v xs) (hG : w.grownBy w' k) (hne : ∀ g, v.ownBlock = some g → k ≠ some g) : OwnV E w' base v xs := by
 refine ⟨h.1, ?_⟩
 rcases h.2 with hn | ⟨g, cap, cur, rfl, hb, hg, r⟩
 · exact .inl hn
 · exact .inr ⟨g, cap, cur, rfl, hb, by rw [hG.block g (Array.getElem?_eq_some_iff.1 hg).1 (fun e => hne g rfl e.symm)]; exact hg, r⟩
theorem Own.form {E : TypeId} {w : World} {base n c : Nat} {A : Option Addr} {l : List Int} (h : Own E w base (.slice A n c) l) (hn : 0 < n) : ∃ g, A = some ⟨g, 0, none⟩ ∧ base ≤ g := by
 rcases h.2 with ⟨hv, hz⟩ | ⟨g, cap, cur, hv, hb, _⟩
 · simp only [Value.slice.injEq] at hv; omega
 · simp only [Value.slice.injEq] at hv; exact ⟨g, hv.1, hb⟩
theorem Own.cell {E : TypeId} {w : World} {base n c g : Nat} {l : List Int} (h : Own E w base (.slice (some ⟨g, 0, none⟩) n c) l) (hn : l.length = n) (j : Nat) (hj : j < n) : w.cell? ⟨g, j, none⟩ = some (.int .u8 (l.getD j 0)) ∧ w.frozen? ⟨g, j, none⟩ = false := by
 have h0 : w.ownsRow base E 1 (.slice (some ⟨g, 0, none⟩) n c) n (u8s l) := by have := h; unfold Own at this; rwa [hn] at this
 exact ⟨by rw [World.ownsRow.cellAt h0 j (by omega), u8s_getElem? l j (by omega)], World.ownsRow.frozenAt h0 j⟩
theorem Own.lit (w : World) (E : TypeId) {base n : Nat} (l : List Int) (hn : l.length = n) (hb : base ≤ w.heap.size) (hm : n ≤ 140737488355328) : Own E (w.alloc (.cells (u8s l).toArray E)) base (.slice (some ⟨w.heap.size, 0, none⟩) n n) l :=
 own_of_block (cs := u8s l) hb (heap_alloc_new w _) hn (Nat.le_refl _) hm (by rw [u8s_length, hn]) (by rw [← hn, ← u8s_length]; exact List.take_length)
end Go.Proofs.YtegnfkbmlalkeaaGreat.kit
namespace Go.Proofs.YtegnfkbmlalkeaaGreat.kit
open Go.RowKit
set_option linter.unusedVariables false
theorem Rd.sliced {w : World} {B n : Nat} {A : Option Addr} {l : List Int} (h : Rd w B A n l) {p q m : Nat} (hp : p ≤ q) (hq : q ≤ n) (hm : q ≤ m) :
   ∃ A', Go.sliced A p q m 1 = .slice A' (q - p) (m - p) ∧ Rd w B A' (q - p) ((l.drop p).take (q - p)) := by
 refine ⟨_, rfl, ?_⟩
 by_cases h0 : q - p = 0
 · rw [h0, List.take_zero]; exact Rd.nil _ _ _
 · obtain ⟨b, o, rfl, _, _⟩ := h.2 (by omega)
   rw [if_neg (by omega)]
   have := h.cut hp hq
   by_cases hp0 : p = 0
   · subst hp0
     simpa [Addr.add] using this
   · simpa [Addr.add, hp0] using this
theorem elem_of {P : Program} {t e : TypeId} (h : P.underlying t = some (.slice e)) : P.elem t = e := by
 unfold Program.elem; rw [h]
end Go.Proofs.YtegnfkbmlalkeaaGreat.kit
namespace Go.Proofs.YtegnfkbmlalkeaaGreat.se
open Go.RowKit Go.Proofs.YtegnfkbmlalkeaaGreat.nums
set_option linter.unusedVariables false
theorem andNot_bv (x y : BitVec 16) : x &&& ~~~y = x ^^^ (x &&& y) := by
 ext i hi
 simp only [BitVec.getElem_and, BitVec.getElem_not, BitVec.getElem_xor]
 cases x[i] <;> cases y[i] <;> rfl
theorem bits_andNot_u16_nat (a b : Nat) (ha : a < 65536) (hb : b < 65536) : bits .andNot .u16 (a : Int) (b : Int) = ((a ^^^ (a &&& b) : Nat) : Int) := by
 show IntKind.u16.wrap ((BitVec.ofInt 16 (a : Int) &&& ~~~BitVec.ofInt 16 (b : Int)).toNat : Int) = _
 rw [andNot_bv, BitVec.toNat_xor, BitVec.toNat_and, bv_nat16 a ha, bv_nat16 b hb, wrap_u16_nat _ (Nat.xor_lt_two_pow (n := 16) ha (Nat.lt_of_le_of_lt Nat.and_le_left ha))]
theorem and_bit (s : Nat) (n : Int) : s &&& bitF n = if hasF s n then bitF n else 0 := by
 cases hn : nodeB n
 · rw [bitF_not hn, hasF_not hn]; simp
 · obtain ⟨k, rfl, h1, h9⟩ := nodeB_nat hn
   rw [bitF_node h1 h9, hasF_node h1 h9]
   apply Nat.eq_of_testBit_eq
   intro i
   rw [Nat.testBit_and, Nat.testBit_two_pow]
   by_cases he : k = i
   · subst he
     cases h : s.testBit k <;> simp
   · cases h : s.testBit k <;> simp [he]
theorem and_bit_zero (s : Nat) (n : Int) : (s &&& bitF n = 0) ↔ hasF s n = false := by
 rw [and_bit]
 cases h : hasF s n
 · simp
 · have := bitF_pos.2 (has_node h)
   simp; omega
theorem less_xor (s : Nat) (n : Int) : s ^^^ (s &&& bitF n) = lessF s n := by
 rw [and_bit]
 unfold lessF
 cases h : hasF s n
 · simp
 · rw [if_pos rfl, if_pos rfl]
   obtain ⟨k, rfl, h1, h9⟩ := nodeB_nat (has_node h)
   rw [hasF_node h1 h9] at h
   rw [bitF_node h1 h9]
   apply Nat.eq_of_testBit_eq
   intro i
   rw [Nat.testBit_xor, less_bit h, Nat.testBit_two_pow]
   by_cases he : i = k
   · subst he; simp [h]
   · simp [he, show k ≠ i from fun e => he e.symm]
theorem may_xor (s : Nat) : (s ^^^ (s &&& 1022) = 0) ↔ mayF s = true := by
 rw [may_of, decide_eq_true_eq]
 constructor
 · intro h
   have := congrArg (fun x => s ^^^ x) h
   simp only [Nat.xor_zero, ← Nat.xor_assoc, Nat.xor_self, Nat.zero_xor] at this
   exact this
 · intro h
   rw [h, Nat.xor_self]
end Go.Proofs.YtegnfkbmlalkeaaGreat.se
namespace Go.Proofs.YtegnfkbmlalkeaaGreat.se
open Go.RowKit Go.Proofs.YtegnfkbmlalkeaaGreat.nums
set_option linter.unusedVariables false
def lowF (x k : Nat) : Nat := x % 2 ^ (k + 1) - x % 2
theorem lowF_zero (x : Nat) : lowF x 0 = 0 := by simp [lowF]
theorem lowF_lt (x k : Nat) : lowF x k < 2 ^ (k + 1) := Nat.lt_of_le_of_lt (Nat.sub_le _ _) (Nat.mod_lt _ (Nat.two_pow_pos _))
theorem lowF_succ (x k : Nat) (hk : k < 9) : lowF x (k + 1) = if x.testBit (k + 1) then withF (lowF x k) ((k + 1 : Nat) : Int) else lowF x k := by
 have hm : x % 2 ≤ x % 2 ^ (k + 1) := by
   have := sumL_to x k (by omega)
   omega
 have hno : hasF (lowF x k) ((k + 1 : Nat) : Int) = false := by
   rw [hasF_node (by omega) (by omega)]; exact Nat.testBit_lt_two_pow (lowF_lt x k)
 rw [withF_add hno, bitF_node (by omega) (by omega)]
 unfold lowF
 rw [mod_succ x (k + 1)]
 cases x.testBit (k + 1)
 · simp
 · simp only [Bool.toNat_true, Nat.mul_one, if_true]
   omega
theorem lowF_all (x : Nat) : lowF x 9 = x &&& 1022 := (and_1022 x).symm
def cntTo (s : Nat) : Nat → Nat
 | 0 => 0
 | k + 1 => cntTo s k + (s.testBit (k + 1)).toNat
def cntF (s : Nat) : Nat := cntTo s 9
theorem cntTo_list (s k : Nat) : (listTo s k).length = cntTo s k := by
 induction k with
 | zero => rfl
 | succ k ih =>
   simp only [listTo, cntTo]
   cases s.testBit (k + 1) <;> simp [ih]
theorem cntF_list (s : Nat) : (listF s).length = cntF s := cntTo_list s 9
theorem cntTo_le (s k : Nat) : cntTo s k ≤ k := by rw [← cntTo_list]; exact listTo_le s k
theorem cntF_le (s : Nat) : cntF s ≤ 9 := cntTo_le s 9
theorem cnt_join (a b k : Nat) : cntTo (a ||| b) k + cntTo (a &&& b) k = cntTo a k + cntTo b k := by
 induction k with
 | zero => rfl
 | succ k ih =>
   simp only [cntTo, Nat.testBit_or, Nat.testBit_and]
   cases a.testBit (k + 1) <;> cases b.testBit (k + 1) <;> simp <;> omega
theorem cnt_zero (k : Nat) : cntTo 0 k = 0 := by
 induction k with
 | zero => rfl
 | succ k ih => simp [cntTo, ih]
end Go.Proofs.YtegnfkbmlalkeaaGreat.se
namespace Go.Proofs.YtegnfkbmlalkeaaGreat.cf
open Go.RowKit Go.Proofs.YtegnfkbmlalkeaaGreat.nums Go.Proofs.YtegnfkbmlalkeaaGreat.se
set_option linter.unusedVariables false
def In64 (z : Int) : Prop := -9223372036854775808 ≤ z ∧ z ≤ 9223372036854775807
structure CfL where
 v : Nat
 w : Nat
 l : Nat
 e : Int
 k : Int
deriving DecidableEq
structure JtL where
 a : CfL
 b : CfL
 two : Bool
deriving DecidableEq
def zeroC : CfL := ⟨0, 0, 0, 0, 0⟩
def zeroJ : JtL := ⟨zeroC, zeroC, false⟩
def CfL.ok (c : CfL) : Prop := c.v < 65536 ∧ c.w < 65536 ∧ c.l < 65536 ∧ In64 c.e ∧ In64 c.k
def JtL.ok (j : JtL) : Prop := j.a.ok ∧ j.b.ok
theorem zero_ok : zeroC.ok := by refine ⟨?_, ?_, ?_, ?_, ?_⟩ <;> simp [zeroC, In64]
def votF (c : CfL) : Nat := c.v ||| c.w
def datF (c : CfL) : Nat := c.v ||| c.l
def memF (c : CfL) : Nat := c.v ||| c.w ||| c.l
theorem vot_lt {c : CfL} (h : c.ok) : votF c < 65536 := Nat.or_lt_two_pow (n := 16) h.1 h.2.1
theorem dat_lt {c : CfL} (h : c.ok) : datF c < 65536 := Nat.or_lt_two_pow (n := 16) h.1 h.2.2.1
theorem mem_lt {c : CfL} (h : c.ok) : memF c < 65536 := Nat.or_lt_two_pow (n := 16) (vot_lt h) h.2.2.1
def joinF (a b : Nat) : Nat := (a ||| b) &&& 1022
theorem join_lt {a b : Nat} (ha : a < 65536) (hb : b < 65536) : joinF a b < 65536 := Nat.lt_of_le_of_lt Nat.and_le_left (Nat.or_lt_two_pow (n := 16) ha hb)
theorem may_iff {s : Nat} : mayF s = true ↔ s &&& 1022 = s := by rw [may_of]; exact decide_eq_true_iff
theorem may_or (a b : Nat) : mayF (a ||| b) = (mayF a && mayF b) := by
 rw [Bool.eq_iff_iff, Bool.and_eq_true, may_iff, may_iff, may_iff]
 constructor
 · intro h
   constructor <;>
   · apply Nat.eq_of_testBit_eq
     intro i
     have := congrArg (fun x => x.testBit i) h
     simp only [Nat.testBit_and, Nat.testBit_or] at this ⊢
     revert this
     cases a.testBit i <;> cases b.testBit i <;> simp
 · rintro ⟨h1, h2⟩
   rw [Nat.and_or_distrib_right, h1, h2]
theorem cnt_and (s : Nat) : cntF (s &&& 1022) = cntF s := by rw [← cntF_list, ← cntF_list, list_and]
theorem cnt_joinF (a b : Nat) : cntF (joinF a b) = cntF (a ||| b) := cnt_and _
theorem cnt_eq_zero {s : Nat} (h : mayF s = true) : cntF s = 0 ↔ s = 0 := by
 constructor
 · intro h0
   rw [may_sum, decide_eq_true_iff] at h
   have hl : listF s = [] := List.eq_nil_of_length_eq_zero (by rw [cntF_list]; exact h0)
   rw [hl] at h
   simpa [sumL] using h.symm
 · rintro rfl; exact cnt_zero 9
theorem may_zero : mayF 0 = true := by decide
theorem join_may {a b : Nat} (ha : mayF a = true) (hb : mayF b = true) : joinF a b = a ||| b := by
 have : mayF (a ||| b) = true := by rw [may_or, ha, hb]; rfl
 exact may_iff.1 this
theorem may_sub {a b : Nat} (ha : mayF a = true) : mayF (a &&& b) = true := by
 rw [may_iff] at ha ⊢
 rw [Nat.and_assoc, Nat.and_comm b 1022, ← Nat.and_assoc, ha]
def mayQ (q n : Int) : Bool := decide (1 ≤ q) && decide (q ≤ n)
def quoB (c : CfL) : Bool := mayQ c.e (cntF (votF c)) && mayQ c.k (cntF (votF c)) && decide ((cntF (votF c) : Int) < c.e + c.k) && decide ((cntF (votF c) : Int) < 2 * c.e)
def apartB (c : CfL) : Bool := decide (c.v &&& c.w = 0) && decide (votF c &&& c.l = 0)
def mayC (c : CfL) : Bool := mayF (memF c) && apartB c && decide (c.v ≠ 0) && quoB c
def mayJ (j : JtL) : Bool := mayC j.a && (if j.two then mayC j.b else decide (j.b = zeroC))
theorem may_parts {c : CfL} (h : mayC c = true) : mayF c.v = true ∧ mayF c.w = true ∧ mayF c.l = true ∧ c.v ≠ 0 ∧ 1 ≤ c.e ∧ c.e ≤ cntF (votF c) ∧ 1 ≤ c.k ∧ c.k ≤ cntF (votF c) ∧ (cntF (votF c) : Int) < c.e + c.k ∧ (cntF (votF c) : Int) < 2 * c.e := by
 simp only [mayC, quoB, mayQ, apartB, memF, may_or, Bool.and_eq_true, decide_eq_true_eq] at h
 obtain ⟨⟨⟨⟨⟨h1, h2⟩, h3⟩, _⟩, h4⟩, ⟨⟨⟨h5, h6⟩, h7, h8⟩, h9⟩, h10⟩ := h
 exact ⟨h1, h2, h3, h4, h5, h6, h7, h8, h9, h10⟩
theorem apart_cnt {c : CfL} (h1 : mayF c.v = true) (h2 : mayF c.w = true) (h3 : mayF c.l = true) : apartB c = decide (cntF (joinF (votF c) c.l) = cntF c.v + cntF c.w + cntF c.l) := by
 have j1 := cnt_join c.v c.w 9
 have j2 := cnt_join (c.v ||| c.w) c.l 9
 have z1 := cnt_eq_zero (may_sub (b := c.w) h1)
 have z2 := cnt_eq_zero (s := (c.v ||| c.w) &&& c.l) (by rw [Nat.and_comm]; exact may_sub h3)
 rw [cnt_joinF]
 unfold apartB votF
 unfold cntF at *
 rw [Bool.eq_iff_iff, Bool.and_eq_true, decide_eq_true_eq, decide_eq_true_eq, decide_eq_true_eq, ← z1, ← z2]
 omega
def elC (c : CfL) (got : Nat) : Bool := decide (c.e ≤ cntF (got &&& votF c))
def coC (c : CfL) (got : Nat) : Bool := decide (c.k ≤ cntF (got &&& votF c)) && decide (got &&& c.v ≠ 0)
def bothJ (j : JtL) (P : CfL → Bool) : Bool := P j.a && (!j.two || P j.b)
def elJ (j : JtL) (got : Nat) : Bool := bothJ j (elC · got)
def coJ (j : JtL) (got : Nat) : Bool := bothJ j (coC · got)
def unF (j : JtL) (f : CfL → Nat) : Nat := if j.two then f j.a ||| f j.b else f j.a
def ledF (j : JtL) (n : Int) : Bool := hasF (unF j (·.v)) n
theorem mayJ_a {j : JtL} (h : mayJ j = true) : mayC j.a = true := by
 unfold mayJ at h; rw [Bool.and_eq_true] at h; exact h.1
theorem mayJ_b {j : JtL} (h : mayJ j = true) (ht : j.two = true) : mayC j.b = true := by
 unfold mayJ at h; rw [Bool.and_eq_true, ht, if_pos rfl] at h; exact h.2
theorem un_lt {j : JtL} {f : CfL → Nat} (h1 : f j.a < 65536) (h2 : f j.b < 65536) : unF j f < 65536 := by
 unfold unF; split
 · exact Nat.or_lt_two_pow (n := 16) h1 h2
 · exact h1
theorem has_or (a b : Nat) (n : Int) : hasF (a ||| b) n = (hasF a n || hasF b n) := by
 simp only [hasF, Nat.testBit_or]
 cases nodeB n <;> simp
def stepB (j : JtL) (to : CfL) : Bool := decide (to.w ≠ j.a.w) || decide (to.v ^^^ (to.v &&& datF j.a) ≠ 0)
def changeE (j : JtL) (to : CfL) : Int := if j.two then 10 else if !mayC to then 11 else if stepB j to then 10 else 0
def changeJ (j : JtL) (to : CfL) : JtL := if changeE j to = 0 then ⟨j.a, to, true⟩ else zeroJ
def finalJ (j : JtL) : JtL := if j.two then ⟨j.b, zeroC, false⟩ else j
theorem final_ok {j : JtL} (h : j.ok) : (finalJ j).ok := by
 unfold finalJ; split
 · exact ⟨h.2, zero_ok⟩
 · exact h
theorem change_two {j : JtL} (to : CfL) (h : j.two = true) : changeE j to = 10 ∧ changeJ j to = zeroJ := by
 have e : changeE j to = 10 := by unfold changeE; rw [h]; rfl
 exact ⟨e, by unfold changeJ; rw [e]; rfl⟩
theorem change_bad {j : JtL} {to : CfL} (h : j.two = false) (hm : mayC to = false) : changeE j to = 11 ∧ changeJ j to = zeroJ := by
 have e : changeE j to = 11 := by unfold changeE; rw [h, hm]; rfl
 exact ⟨e, by unfold changeJ; rw [e]; rfl⟩
theorem change_step {j : JtL} {to : CfL} (h : j.two = false) (hm : mayC to = true) (hs : stepB j to = true) : changeE j to = 10 ∧ changeJ j to = zeroJ := by
 have e : changeE j to = 10 := by unfold changeE; rw [h, hm, hs]; rfl
 exact ⟨e, by unfold changeJ; rw [e]; rfl⟩
theorem change_goes {j : JtL} {to : CfL} (h : j.two = false) (hm : mayC to = true) (hs : stepB j to = false) : changeE j to = 0 ∧ changeJ j to = ⟨j.a, to, true⟩ := by
 have e : changeE j to = 0 := by unfold changeE; rw [h, hm, hs]; rfl
 exact ⟨e, by unfold changeJ; rw [e]; rfl⟩
end Go.Proofs.YtegnfkbmlalkeaaGreat.cf
namespace Go.Proofs.YtegnfkbmlalkeaaGreat.lg
open Go Go.Proofs.YtegnfkbmlalkeaaGreat.cf
set_option linter.unusedVariables false
structure EnL where
 t : Int
 k : Int
 d : ByteArray
 j : JtL
def zE : EnL := ⟨0, 0, ⟨#[]⟩, zeroJ⟩
structure LgL where
 b : Int
 t : Int
 j : JtL
 es : List EnL
def zL : LgL := ⟨0, 0, zeroJ, []⟩
def eqE (x y : EnL) : Bool := x.t == y.t && (x.k == y.k && (x.d.toList == y.d.toList && decide (x.j = y.j)))
theorem eqE_iff (x y : EnL) : eqE x y = true ↔ x = y := by
 obtain ⟨a, b, c, d⟩ := x
 obtain ⟨a', b', c', d'⟩ := y
 simp only [eqE, Bool.and_eq_true, beq_iff_eq, decide_eq_true_eq, EnL.mk.injEq, ByteArray.toList_eq]
 constructor
 · rintro ⟨h1, h2, h3, h4⟩
   refine ⟨h1, h2, ?_, h4⟩
   obtain ⟨⟨u⟩⟩ := c
   obtain ⟨⟨v⟩⟩ := c'
   simpa using h3
 · rintro ⟨h1, h2, h3, h4⟩
   exact ⟨h1, h2, by rw [h3], h4⟩
def eqEs : List EnL → List EnL → Bool
 | [], [] => true
 | x :: a, y :: b => eqE x y && eqEs a b
 | _, _ => false
theorem eqEs_iff : ∀ (a b : List EnL), eqEs a b = true ↔ a = b
 | [], [] => by simp [eqEs]
 | [], y :: b => by simp [eqEs]
 | x :: a, [] => by simp [eqEs]
 | x :: a, y :: b => by simp [eqEs, eqE_iff, eqEs_iff a b]
theorem eqEs_len {a b : List EnL} (h : a.length ≠ b.length) : eqEs a b = false := by
 rw [Bool.eq_false_iff]; intro hh; exact h (by rw [(eqEs_iff a b).1 hh])
theorem eqEs_drop {a b : List EnL} {i : Nat} {x y : EnL} (hx : a[i]? = some x) (hy : b[i]? = some y) : eqEs (a.drop i) (b.drop i) = (eqE x y && eqEs (a.drop (i + 1)) (b.drop (i + 1))) := by
 obtain ⟨h1, rfl⟩ := List.getElem?_eq_some_iff.1 hx
 obtain ⟨h2, rfl⟩ := List.getElem?_eq_some_iff.1 hy
 rw [List.drop_eq_getElem_cons h1, List.drop_eq_getElem_cons h2]; rfl
def eqL (a b : LgL) : Bool := a.b == b.b && (a.t == b.t && (decide (a.j = b.j) && eqEs a.es b.es))
theorem eqL_iff (a b : LgL) : eqL a b = true ↔ a = b := by
 obtain ⟨b1, t1, j1, e1⟩ := a
 obtain ⟨b2, t2, j2, e2⟩ := b
 simp [eqL, eqEs_iff]
theorem eqL_self (a : LgL) : eqL a a = true := (eqL_iff a a).2 rfl
def withB (n m : Int) : Bool := decide (m ≤ n) && decide (n ≤ 1099511627776)
def mayE : Int → List EnL → Bool
 | _, [] => true
 | t, e :: es => withB e.t t && mayE e.t es
theorem mayE_drop {t : Int} {es : List EnL} {i : Nat} {x : EnL} (h : es[i]? = some x) : mayE t (es.drop i) = (withB x.t t && mayE x.t (es.drop (i + 1))) := by
 obtain ⟨h1, rfl⟩ := List.getElem?_eq_some_iff.1 h
 rw [List.drop_eq_getElem_cons h1]; rfl
def mayF (l : LgL) : Bool := withB l.b 0 && (withB l.t 0 && mayE (max l.t 1) l.es)
theorem mayF_b {l : LgL} (h : mayF l = true) : 0 ≤ l.b ∧ l.b ≤ 1099511627776 := by
 simp [mayF, withB] at h; exact h.1
def lastF (l : LgL) : Int := l.b + l.es.length
def atF (l : LgL) (i : Int) : EnL × Bool := if l.b < i ∧ i ≤ lastF l then (l.es.getD (i - l.b - 1).toNat zE, true) else (zE, false)
def termF (l : LgL) (i : Int) : Int × Bool := if i = l.b then (l.t, true) else ((atF l i).1.t, (atF l i).2)
theorem atF_in {l : LgL} {i : Int} {k : Nat} {x : EnL} (hi : i = l.b + 1 + k) (hx : l.es[k]? = some x) : atF l i = (x, true) := by
 obtain ⟨h1, rfl⟩ := List.getElem?_eq_some_iff.1 hx
 unfold atF lastF
 rw [if_pos (by omega), show (i - l.b - 1).toNat = k by omega, List.getD_eq_getElem?_getD, hx]; rfl
theorem atF_out {l : LgL} {i : Int} (h : i ≤ l.b ∨ lastF l < i) : atF l i = (zE, false) := by
 unfold atF; rw [if_neg (by omega)]
theorem termF_in {l : LgL} {i : Int} {k : Nat} {x : EnL} (hi : i = l.b + 1 + k) (hx : l.es[k]? = some x) : termF l i = (x.t, true) := by
 unfold termF; rw [if_neg (by omega), atF_in hi hx]
def sliceF (l : LgL) (a n : Int) : List EnL := (l.es.drop (max a (l.b + 1) - l.b - 1).toNat).take n.toNat
def pushF (l : LgL) (e : EnL) : LgL := { l with es := l.es ++ [e] }
def sameN : List EnL → List EnL → Nat
 | x :: a, y :: b => if x.t = y.t then sameN a b + 1 else 0
 | _, _ => 0
def joinB (l : LgL) (prev term : Int) (n : Nat) : Bool := decide (0 ≤ prev ∧ prev ≤ lastF l ∧ l.b ≤ prev + n) && (!(termF l prev).2 || (termF l prev).1 == term)
def laidF (l : LgL) (prev : Int) (es : List EnL) : List EnL :=
 let k := sameN (l.es.drop (max prev l.b - l.b).toNat) (es.drop (max prev l.b - prev).toNat)
 if k = (es.drop (max prev l.b - prev).toNat).length then l.es else l.es.take ((max prev l.b - l.b).toNat + k) ++ (es.drop (max prev l.b - prev).toNat).drop k
def mergeF (l : LgL) (prev term : Int) (es : List EnL) : LgL × Int × Bool :=
 if joinB l prev term es.length = true then ({ l with es := laidF l prev es }, prev + es.length, true) else (l, 0, false)
def confF (j : JtL) (es : List EnL) : JtL := es.foldl (fun a e => if e.k = 2 then e.j else a) j
theorem confF_snoc {j : JtL} {es : List EnL} {i : Nat} {x : EnL} (h : es[i]? = some x) : confF j (es.take (i + 1)) = if x.k = 2 then x.j else confF j (es.take i) := by
 obtain ⟨h1, rfl⟩ := List.getElem?_eq_some_iff.1 h
 rw [List.take_succ_eq_append_getElem h1, confF, List.foldl_append]; rfl
def compactF (l : LgL) (to : Int) : LgL × Int :=
 if (termF l to).2 = true then (⟨to, (termF l to).1, confF l.j (l.es.take (to - l.b).toNat), l.es.drop (to - l.b).toNat⟩, 0) else (zL, 1)
def newerF (l : LgL) (last term : Int) : Bool := if term = (termF l (lastF l)).1 then decide (lastF l ≤ last) else decide ((termF l (lastF l)).1 < term)
def Fit (l : LgL) : Prop := 0 ≤ l.b ∧ l.b ≤ 2199023255552 ∧ l.es.length ≤ 1000000
theorem fit_may {l : LgL} (h : mayF l = true) (hn : l.es.length ≤ 1000000) : Fit l := by
 have := mayF_b h
 exact ⟨by omega, by omega, hn⟩
end Go.Proofs.YtegnfkbmlalkeaaGreat.lg
namespace Go.Proofs.YtegnfkbmlalkeaaGreat.kit
open Go Go.RowKit Go.Proofs.YtegnfkbmlalkeaaGreat.nums Go.Proofs.YtegnfkbmlalkeaaGreat.cf
set_option linter.unusedVariables false
def cfC (c : CfL) : List Value := [.int .u16 (c.v : Int), .int .u16 (c.w : Int), .int .u16 (c.l : Int), .int .i64 c.e, .int .i64 c.k]
def cfV (c : CfL) : Value := .agg #[.int .u16 (c.v : Int), .int .u16 (c.w : Int), .int .u16 (c.l : Int), .int .i64 c.e, .int .i64 c.k]
def jtC (j : JtL) : List Value := [.int .u16 (j.a.v : Int), .int .u16 (j.a.w : Int), .int .u16 (j.a.l : Int), .int .i64 j.a.e, .int .i64 j.a.k, .int .u16 (j.b.v : Int), .int .u16 (j.b.w : Int), .int .u16 (j.b.l : Int), .int .i64 j.b.e, .int .i64 j.b.k, .bool j.two]
def jtV (j : JtL) : Value := .agg #[.int .u16 (j.a.v : Int), .int .u16 (j.a.w : Int), .int .u16 (j.a.l : Int), .int .i64 j.a.e, .int .i64 j.a.k, .int .u16 (j.b.v : Int), .int .u16 (j.b.w : Int), .int .u16 (j.b.l : Int), .int .i64 j.b.e, .int .i64 j.b.k, .bool j.two]
section
variable {w w' : World} {b o g : Nat} {E : TypeId} {a0 a1 a2 a3 a4 a5 a6 a7 a8 a9 a10 : Value}
theorem at5 (h : At w b o [a0, a1, a2, a3, a4]) : w.cell? ⟨b, o, none⟩ = some a0 ∧ w.cell? ⟨b, o + 1, none⟩ = some a1 ∧ w.cell? ⟨b, o + 2, none⟩ = some a2 ∧ w.cell? ⟨b, o + 3, none⟩ = some a3 ∧ w.cell? ⟨b, o + 4, none⟩ = some a4 :=
 ⟨h 0 _ rfl, h 1 _ rfl, h 2 _ rfl, h 3 _ rfl, h 4 _ rfl⟩
theorem blk5 (h : Blk E w g [a0, a1, a2, a3, a4]) : w.cell? ⟨g, 0, none⟩ = some a0 ∧ w.cell? ⟨g, 1, none⟩ = some a1 ∧ w.cell? ⟨g, 2, none⟩ = some a2 ∧ w.cell? ⟨g, 3, none⟩ = some a3 ∧ w.cell? ⟨g, 4, none⟩ = some a4 :=
 ⟨h.cell 0, h.cell 1, h.cell 2, h.cell 3, h.cell 4⟩
theorem blk11 (h : Blk E w g [a0, a1, a2, a3, a4, a5, a6, a7, a8, a9, a10]) : w.cell? ⟨g, 0, none⟩ = some a0 ∧ w.cell? ⟨g, 1, none⟩ = some a1 ∧ w.cell? ⟨g, 2, none⟩ = some a2 ∧ w.cell? ⟨g, 3, none⟩ = some a3 ∧ w.cell? ⟨g, 4, none⟩ = some a4 ∧ w.cell? ⟨g, 5, none⟩ = some a5 ∧ w.cell? ⟨g, 6, none⟩ = some a6 ∧ w.cell? ⟨g, 7, none⟩ = some a7 ∧ w.cell? ⟨g, 8, none⟩ = some a8 ∧ w.cell? ⟨g, 9, none⟩ = some a9 ∧ w.cell? ⟨g, 10, none⟩ = some a10 :=
 ⟨h.cell 0, h.cell 1, h.cell 2, h.cell 3, h.cell 4, h.cell 5, h.cell 6, h.cell 7, h.cell 8, h.cell 9, h.cell 10⟩
end
section
variable {w w0 : World} {g B : Nat} {E : TypeId} {a0 a1 a2 a3 a4 a5 a6 a7 a8 a9 a10 : Value} (b0 b1 b2 b3 b4 b5 b6 b7 b8 b9 b10 : Value)
theorem put11 (K : Blk E w g [a0, a1, a2, a3, a4, a5, a6, a7, a8, a9, a10]) : Blk E (((((((((((w.setCell ⟨g, 0, none⟩ b0).setCell ⟨g, 1, none⟩ b1).setCell ⟨g, 2, none⟩ b2).setCell ⟨g, 3, none⟩ b3).setCell ⟨g, 4, none⟩ b4).setCell ⟨g, 5, none⟩ b5).setCell ⟨g, 6, none⟩ b6).setCell ⟨g, 7, none⟩ b7).setCell ⟨g, 8, none⟩ b8).setCell ⟨g, 9, none⟩ b9).setCell ⟨g, 10, none⟩ b10) g [b0, b1, b2, b3, b4, b5, b6, b7, b8, b9, b10] := (((((((((((K.set_ 0 b0).set_ 1 b1).set_ 2 b2).set_ 3 b3).set_ 4 b4).set_ 5 b5).set_ 6 b6).set_ 7 b7).set_ 8 b8).set_ 9 b9).set_ 10 b10)
theorem below11 (h : Below B w0 w) (hg : B ≤ g) : Below B w0 (((((((((((w.setCell ⟨g, 0, none⟩ b0).setCell ⟨g, 1, none⟩ b1).setCell ⟨g, 2, none⟩ b2).setCell ⟨g, 3, none⟩ b3).setCell ⟨g, 4, none⟩ b4).setCell ⟨g, 5, none⟩ b5).setCell ⟨g, 6, none⟩ b6).setCell ⟨g, 7, none⟩ b7).setCell ⟨g, 8, none⟩ b8).setCell ⟨g, 9, none⟩ b9).setCell ⟨g, 10, none⟩ b10) := (((((((((((h.setCell (p := ⟨g, 0, none⟩) hg b0).setCell (p := ⟨g, 1, none⟩) hg b1).setCell (p := ⟨g, 2, none⟩) hg b2).setCell (p := ⟨g, 3, none⟩) hg b3).setCell (p := ⟨g, 4, none⟩) hg b4).setCell (p := ⟨g, 5, none⟩) hg b5).setCell (p := ⟨g, 6, none⟩) hg b6).setCell (p := ⟨g, 7, none⟩) hg b7).setCell (p := ⟨g, 8, none⟩) hg b8).setCell (p := ⟨g, 9, none⟩) hg b9).setCell (p := ⟨g, 10, none⟩) hg b10)
end
theorem row_at {w : World} {E : TypeId} {g : Nat} {l : List Value} (h : Blk E w g l) : At w g 0 l := fun j u hu => by rw [Nat.zero_add, h.cell]; exact hu
end Go.Proofs.YtegnfkbmlalkeaaGreat.kit
namespace Go.Proofs.YtegnfkbmlalkeaaGreat.kit
open Go Go.RowKit Go.Proofs.YtegnfkbmlalkeaaGreat.nums Go.Proofs.YtegnfkbmlalkeaaGreat.cf
set_option linter.unusedVariables false
theorem cf_zero (v x l : Nat) (e k : Int) : ((⟨v, x, l, e, k⟩ : CfL) = zeroC) ↔ v = 0 ∧ x = 0 ∧ l = 0 ∧ e = 0 ∧ k = 0 := by simp [zeroC]
theorem neq_zero (v x l : Nat) (e k : Int) (w : World) : (binOp .neq 25 (.agg #[.int .u16 (v : Int), .int .u16 (x : Int), .int .u16 (l : Int), .int .i64 e, .int .i64 k]) (.agg #[.int .u16 0, .int .u16 0, .int .u16 0, .int .i64 0, .int .i64 0])).run Tryz.prog w = .ok (.bool (!decide ((⟨v, x, l, e, k⟩ : CfL) = zeroC))) w := by
 have hd : decide ((⟨v, x, l, e, k⟩ : CfL) = zeroC) = decide (v = 0 ∧ x = 0 ∧ l = 0 ∧ e = 0 ∧ k = 0) := decide_eq_decide.2 (cf_zero v x l e k)
 rw [hd]
 clear hd
 by_cases h1 : v = 0 <;> by_cases h2 : x = 0 <;> by_cases h3 : l = 0 <;> by_cases h4 : e = 0 <;> by_cases h5 : k = 0
 all_goals go_simp
end Go.Proofs.YtegnfkbmlalkeaaGreat.kit
namespace Go.Proofs.YtegnfkbmlalkeaaGreat.frame
open Go.ChangeShapes Go.WideShapes Go.ChangeAt Go.RowKit Go.Proofs.YtegnfkbmlalkeaaGreat.kit Go.Proofs.YtegnfkbmlalkeaaGreat.nums
theorem gather {α : Type} {P : Nat → α → Prop} : ∀ n : Nat, (∀ i, i < n → ∃ x, P i x) → ∃ L : List α, L.length = n ∧ ∀ i x, L[i]? = some x → P i x
 | 0, _ => ⟨[], rfl, fun i x h => by simp at h⟩
 | n + 1, h => by
   obtain ⟨L, hl, hL⟩ := gather n (fun i hi => h i (by omega))
   obtain ⟨x, hx⟩ := h n (by omega)
   refine ⟨L ++ [x], by simp [hl], fun i y hy => ?_⟩
   by_cases hi : i < n
   · rw [List.getElem?_append_left (by omega)] at hy; exact hL i y hy
   · have hi2 : i < (L ++ [x]).length := (List.getElem?_eq_some_iff.1 hy).1
     simp [hl] at hi2
     obtain rfl : i = n := by omega
     rw [List.getElem?_append_right (by omega), hl, Nat.sub_self] at hy
     simp at hy
     subst hy; exact hx
end Go.Proofs.YtegnfkbmlalkeaaGreat.frame
namespace Go.Proofs.YtegnfkbmlalkeaaGreat.frame
open Go Go.ChangeShapes Go.WideShapes Go.ChangeAt Go.RowKit Go.Proofs.YtegnfkbmlalkeaaGreat.kit Go.Proofs.YtegnfkbmlalkeaaGreat.nums Go.Proofs.YtegnfkbmlalkeaaGreat.cf
set_option linter.unusedVariables false
theorem long3 {α : Type} (l : List α) (h : l.length = 3) : ∃ a0 a1 a2, l = [a0, a1, a2] := by
 match l, h with
 | [a0, a1, a2], _ => exact ⟨a0, a1, a2, rfl⟩
theorem long5 {α : Type} (l : List α) (h : l.length = 5) : ∃ a0 a1 a2 a3 a4, l = [a0, a1, a2, a3, a4] := by
 match l, h with
 | [a0, a1, a2, a3, a4], _ => exact ⟨a0, a1, a2, a3, a4, rfl⟩
theorem long11 {α : Type} (l : List α) (h : l.length = 11) : ∃ a0 a1 a2 a3 a4 a5 a6 a7 a8 a9 a10, l = [a0, a1, a2, a3, a4, a5, a6, a7, a8, a9, a10] := by
 match l, h with
 | [a0, a1, a2, a3, a4, a5, a6, a7, a8, a9, a10], _ => exact ⟨a0, a1, a2, a3, a4, a5, a6, a7, a8, a9, a10, rfl⟩
theorem boolc_of_trod {H : Type} {enc : TypeId × Value → H} {W : World} {n : Nat} {v : Value} {y : DataW H × List MemPlace} (h : DataW.trod enc Tryz.prog W 0 (fun _ => true) true n 4 [v] = some y) : ∃ z, v = .bool z := by
 obtain ⟨z, h1, _⟩ := DataW.trod_bool Tryz.underlying4 h
 simp at h1
 exact ⟨z, h1⟩
theorem intc_of_trod {H : Type} {enc : TypeId × Value → H} {W : World} {n : Nat} {v : Value} {y : DataW H × List MemPlace} (h : DataW.trod enc Tryz.prog W 0 (fun _ => true) true n 3 [v] = some y) : ∃ z, v = .int .i64 z ∧ In64 z := by
 obtain ⟨z, h1, _, hw⟩ := DataW.trod_int Tryz.underlying3 h
 simp at h1
 exact ⟨z, h1, by unfold In64; simpa [Lit.wf, IntKind.min, IntKind.max, IntKind.signed, IntKind.bits] using hw⟩
theorem setc_of_trod {H : Type} {enc : TypeId × Value → H} {W : World} {n : Nat} {v : Value} {y : DataW H × List MemPlace} (h : DataW.trod enc Tryz.prog W 0 (fun _ => true) true n 23 [v] = some y) : ∃ z : Nat, v = .int .u16 (z : Int) ∧ z < 65536 := by
 obtain ⟨z, h1, _, hw⟩ := DataW.trod_int Tryz.underlying23 h
 simp at h1
 have hb : 0 ≤ z ∧ z ≤ 65535 := by simpa [Lit.wf, IntKind.min, IntKind.max, IntKind.signed, IntKind.bits] using hw
 exact ⟨z.toNat, by rw [h1]; congr 1; omega, by omega⟩
set_option maxRecDepth 100000 in
theorem cf_of_cells {H : Type} {enc : TypeId × Value → H} {W : World} {n : Nat} {cs : List Value} {y : DataW H × List MemPlace} (h : DataW.trod enc Tryz.prog W 0 (fun _ => true) true n 25 cs = some y) : ∃ c : CfL, cs = cfC c ∧ c.ok := by
 obtain ⟨xs, m, _, _, hl, hxl, hF⟩ := DataW.trod_struct Tryz.underlying25 h
 have hc : Tryz.prog.cellsOf 25 = 5 := by kernel_rfl
 rw [hc] at hl
 obtain ⟨c0, c1, c2, c3, c4, rfl⟩ := long5 cs hl
 obtain ⟨y0, y1, y2, y3, y4, rfl⟩ := long5 xs hxl
 have k0 : Tryz.prog.cellsOf 23 = 1 := by kernel_rfl
 have f0 : DataW.trod enc Tryz.prog W 0 (fun _ => true) true m 23 [c0] = some y0 := by have h := hF 0 { name := "Voters", type := 23, offset := 0, embedded := false, tag := "", pkgPath := "", byteOffset := 0 } rfl; dsimp only at h; rw [k0] at h; exact h
 have k1 : Tryz.prog.cellsOf 23 = 1 := by kernel_rfl
 have f1 : DataW.trod enc Tryz.prog W 0 (fun _ => true) true m 23 [c1] = some y1 := by have h := hF 1 { name := "Witnesses", type := 23, offset := 1, embedded := false, tag := "", pkgPath := "", byteOffset := 2 } rfl; dsimp only at h; rw [k1] at h; exact h
 have k2 : Tryz.prog.cellsOf 23 = 1 := by kernel_rfl
 have f2 : DataW.trod enc Tryz.prog W 0 (fun _ => true) true m 23 [c2] = some y2 := by have h := hF 2 { name := "Learners", type := 23, offset := 2, embedded := false, tag := "", pkgPath := "", byteOffset := 4 } rfl; dsimp only at h; rw [k2] at h; exact h
 have k3 : Tryz.prog.cellsOf 3 = 1 := by kernel_rfl
 have f3 : DataW.trod enc Tryz.prog W 0 (fun _ => true) true m 3 [c3] = some y3 := by have h := hF 3 { name := "Elect", type := 3, offset := 3, embedded := false, tag := "", pkgPath := "", byteOffset := 8 } rfl; dsimp only at h; rw [k3] at h; exact h
 have k4 : Tryz.prog.cellsOf 3 = 1 := by kernel_rfl
 have f4 : DataW.trod enc Tryz.prog W 0 (fun _ => true) true m 3 [c4] = some y4 := by have h := hF 4 { name := "Commit", type := 3, offset := 4, embedded := false, tag := "", pkgPath := "", byteOffset := 16 } rfl; dsimp only at h; rw [k4] at h; exact h
 obtain ⟨z0, rfl, b0⟩ := setc_of_trod f0
 obtain ⟨z1, rfl, b1⟩ := setc_of_trod f1
 obtain ⟨z2, rfl, b2⟩ := setc_of_trod f2
 obtain ⟨z3, rfl, b3⟩ := intc_of_trod f3
 obtain ⟨z4, rfl, b4⟩ := intc_of_trod f4
 exact ⟨⟨z0, z1, z2, z3, z4⟩, rfl, b0, b1, b2, b3, b4⟩
set_option maxRecDepth 100000 in
theorem jt_of_cells {H : Type} {enc : TypeId × Value → H} {W : World} {n : Nat} {cs : List Value} {y : DataW H × List MemPlace} (h : DataW.trod enc Tryz.prog W 0 (fun _ => true) true n 27 cs = some y) : ∃ j : JtL, cs = jtC j ∧ j.ok := by
 obtain ⟨xs, m, _, _, hl, hxl, hF⟩ := DataW.trod_struct Tryz.underlying27 h
 have hc : Tryz.prog.cellsOf 27 = 11 := by kernel_rfl
 rw [hc] at hl
 obtain ⟨c0, c1, c2, c3, c4, c5, c6, c7, c8, c9, c10, rfl⟩ := long11 cs hl
 obtain ⟨y0, y1, y2, rfl⟩ := long3 xs hxl
 have k0 : Tryz.prog.cellsOf 25 = 5 := by kernel_rfl
 have f0 : DataW.trod enc Tryz.prog W 0 (fun _ => true) true m 25 [c0, c1, c2, c3, c4] = some y0 := by have h := hF 0 { name := "Old", type := 25, offset := 0, embedded := false, tag := "", pkgPath := "", byteOffset := 0 } rfl; dsimp only at h; rw [k0] at h; exact h
 have k1 : Tryz.prog.cellsOf 25 = 5 := by kernel_rfl
 have f1 : DataW.trod enc Tryz.prog W 0 (fun _ => true) true m 25 [c5, c6, c7, c8, c9] = some y1 := by have h := hF 1 { name := "New", type := 25, offset := 5, embedded := false, tag := "", pkgPath := "", byteOffset := 24 } rfl; dsimp only at h; rw [k1] at h; exact h
 have k2 : Tryz.prog.cellsOf 4 = 1 := by kernel_rfl
 have f2 : DataW.trod enc Tryz.prog W 0 (fun _ => true) true m 4 [c10] = some y2 := by have h := hF 2 { name := "Two", type := 4, offset := 10, embedded := false, tag := "", pkgPath := "", byteOffset := 48 } rfl; dsimp only at h; rw [k2] at h; exact h
 obtain ⟨a, e0, o0⟩ := cf_of_cells f0
 obtain ⟨b, e1, o1⟩ := cf_of_cells f1
 obtain ⟨z2, rfl⟩ := boolc_of_trod f2
 simp only [cfC, List.cons.injEq, and_true] at e0 e1
 obtain ⟨rfl, rfl, rfl, rfl, rfl⟩ := e0
 obtain ⟨rfl, rfl, rfl, rfl, rfl⟩ := e1
 exact ⟨⟨a, b, z2⟩, rfl, o0, o1⟩
end Go.Proofs.YtegnfkbmlalkeaaGreat.frame
namespace Go.Proofs.YtegnfkbmlalkeaaGreat.law0
open Go.RowKit Go.Proofs.YtegnfkbmlalkeaaGreat.kit Go.Proofs.YtegnfkbmlalkeaaGreat.nums Go.Proofs.YtegnfkbmlalkeaaGreat.bytes
set_option linter.unusedVariables false
def placeF (k n : Int) : Int := if n < 1 then 0 else k % n
theorem place_in (k n : Int) (h : 1 ≤ n) : 0 ≤ placeF k n ∧ placeF k n < n := by
 unfold placeF; rw [if_neg (by omega)]
 exact ⟨Int.emod_nonneg _ (by omega), Int.emod_lt_of_pos _ (by omega)⟩
theorem place_any (k n : Int) (w : World) (h0 : -9223372036854775808 ≤ k) (h1 : k ≤ 9223372036854775807) (hn : n ≤ 9223372036854775807) :
   Calls Tryz.prog 15 #[.int .i64 k, .int .i64 n] w fun e w' => e = .returned (.int .i64 (placeF k n)) ∧ w = w' := by
 by_cases h : n < 1
 · have HP := Lib.hid (show placeF k n = 0 from if_pos h)
   go_enter Tryz.func15, Tryz.ntmps15
   go_wp2_with fail
   go_ret
   exact ⟨by rw [HP.out]; rfl, rfl⟩
 · have hz : ¬ n = 0 := by omega
   have HP := Lib.hid (show placeF k n = k % n from if_neg h)
   have e1 := Int.emod_nonneg k hz
   have e2 := Int.emod_lt_of_pos k (show 0 < n by omega)
   have ht : k.tmod n = k % n ∨ k.tmod n = k % n - n ∧ k % n ≠ 0 := by
     rw [Int.tmod_eq_emod]
     split
     · left; simp
     · rename_i hd
       right
       rw [show ((n.natAbs : Nat) : Int) = n by omega]
       exact ⟨rfl, fun h => hd (.inr (Int.dvd_of_emod_eq_zero h))⟩
   have ht2 : (0 ≤ k.tmod n ∧ placeF k n = k.tmod n) ∨ (k.tmod n < 0 ∧ -n < k.tmod n ∧ placeF k n = k.tmod n + n) := by
     rw [HP.out]
     generalize k % n = r at *
     generalize k.tmod n = q at *
     omega
   clear ht e1 e2 HP
   generalize hq : k.tmod n = q at *
   rcases ht2 with ⟨h2, h3⟩ | ⟨h2, h4, h3⟩
   · have HP := Lib.hid h3
     clear h3
     go_enter Tryz.func15, Tryz.ntmps15
     go_wp2_with fail
     go_ret
     exact ⟨by rw [HP.out]; rfl, rfl⟩
   · have HP := Lib.hid h3
     clear h3
     go_enter Tryz.func15, Tryz.ntmps15
     go_wp2_with fail
     go_ret
     exact ⟨by rw [HP.out]; rfl, rfl⟩
def TwinsOf (w : World) (base : Nat) (xs : List Value) (L : List (List Int)) : Prop :=
 ∀ (j : Nat) (x : Value) (l : List Int), xs[j]? = some x → L[j]? = some l → ∃ g, x = .slice (some ⟨g, 0, none⟩) l.length (l.length + 3) ∧ IsTwin w g l ∧ base ≤ g
theorem TwinsOf.below {w w' : World} {base : Nat} {xs : List Value} {L : List (List Int)} (h : TwinsOf w base xs L) (hb : Below w.heap.size w w') : TwinsOf w' base xs L := fun j x l hx hl => by
 obtain ⟨g, e, hT, hg⟩ := h j x l hx hl
 exact ⟨g, e, hT.below hb hT.lt, hg⟩
def SlsOf (w : World) (B : Nat) (xs : List Value) (L : List (List Int)) : Prop := ∀ (j : Nat) (x : Value) (l : List Int), xs[j]? = some x → L[j]? = some l → Sl w B x l
theorem SlsOf.one {w : World} {B : Nat} {x : Value} {l : List Int} (hx : Sl w B x l) : SlsOf w B [x] [l] := fun i y m hy hm => by
 match i with
 | 0 => simp at hy hm; subst hy; subst hm; exact hx
 | i + 1 => simp at hy
end Go.Proofs.YtegnfkbmlalkeaaGreat.law0
