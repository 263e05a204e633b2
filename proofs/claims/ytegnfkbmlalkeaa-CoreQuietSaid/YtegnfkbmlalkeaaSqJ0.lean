/- What the statements' Twin, Kept and Spoil do: the same bytes with spare room, whether it is as it was, and all written over. Condition: the slices are at most 2^40 long. -/
import Derived.Deep.RegionHeld3
import Derived.WalkKit
import Derived.WalkLawsBesides
import Derived.WalkSpells
import Derived.OwnWalk
import Derived.Laws.CopyOwn
import Derived.Laws.BytesArg
import Derived.Lib.Hide
import Derived.RowKit
import Derived.Laws.Bits64
import Derived.Lib.EndianBits
import Derived.Test.YtegnfkbmlalkeaaProg
import Derived.Outline
namespace Go.Proofs.Ytegnfkbmlalkeaa.kit
open Go
variable {P : Program} {ops : Array Oper} {md : Region.Mode} {Q : Exit → Act → World → Prop} {S : World → Prop}
theorem tk {fuel : Nat} {listed : Array Bool} {a : Act} {w : World} (i : Nat) (oi : Oper) (v : Value) (h : wpAnyH P md ops Q S fuel (listed.setIfInBounds i true) (a.put oi.dst v) w)
   (hi : ops[i]? = some oi := by rfl) (hs : Region.noSelect ops = true := by kernel_rfl) (hf : Region.free md ops listed i = true := by kernel_rfl) (hr : (Region.ready md ops listed).contains i = true := by kernel_rfl)
   (hQ : ∀ c a w, Q (.panic c) (a.put oi.dst v) w → Q (.panic c) a w := by exact fun _ _ _ h => h) (hw : Region.wanted oi (yielded ops a.tmps) = true := by rfl) (hS : S w := by assumption)
   (hy : ∀ w, S w → (execOp a.eval oi).run P w = .ok (.value v) w := by (intro wq hSw; (try dsimp only at hSw); go_simp; first | done | with_reducible rfl)) : wpAnyH P md ops Q S (fuel + 1) listed a w :=
 wpAnyH_take hi hs hf hr hQ (Or.inl ⟨hw, hy⟩) hS h
theorem tu {fuel : Nat} {listed : Array Bool} {a : Act} {w : World} (i : Nat) (oi : Oper) (h : wpAnyH P md ops Q S fuel (listed.setIfInBounds i true) (a.put oi.dst undef) w)
   (hi : ops[i]? = some oi := by rfl) (hs : Region.noSelect ops = true := by kernel_rfl) (hf : Region.free md ops listed i = true := by kernel_rfl) (hr : (Region.ready md ops listed).contains i = true := by kernel_rfl)
   (hQ : ∀ c a w, Q (.panic c) (a.put oi.dst undef) w → Q (.panic c) a w := by exact fun _ _ _ h => h) (hw : Region.wanted oi (yielded ops a.tmps) = false := by rfl) (hS : S w := by assumption) : wpAnyH P md ops Q S (fuel + 1) listed a w :=
 wpAnyH_take hi hs hf hr hQ (Or.inr ⟨hw, rfl⟩) hS h
end Go.Proofs.Ytegnfkbmlalkeaa.kit
namespace Go.Proofs.Ytegnfkbmlalkeaa.kit
open Go
theorem ka {α : Type} (l : List α) (i : Nat) (x : α) : l.toArray.setIfInBounds i x = (l.set i x).toArray := List.setIfInBounds_toArray ..
theorem kb {α : Type} (y x : α) (l : List α) : (y :: l).set 0 x = x :: l := rfl
theorem kc {α : Type} (y x : α) (l : List α) (n : Nat) : (y :: l).set (n + 1) x = y :: l.set n x := rfl
def oprAt : List Oper → Nat → Option Oper
  | [], _ => none
  | o :: _, 0 => some o
  | _ :: l, n + 1 => oprAt l n
theorem oprAt_get : ∀ (l : List Oper) (i : Nat), oprAt l i = l[i]?
  | [], i => by cases i <;> rfl
  | o :: l, 0 => rfl
  | o :: l, n + 1 => by rw [oprAt, oprAt_get l n]; rfl
section
variable {P : Program} {ops : Array Oper} {md : Region.Mode} {Q : Exit → Act → World → Prop} {S : World → Prop}
theorem oprAt_arr {i : Nat} {o : Oper} (h : oprAt ops.toList i = some o) : ops[i]? = some o := by rw [← Array.getElem?_toList, ← oprAt_get]; exact h
theorem tj {fuel : Nat} {listed : Array Bool} {a : Act} {w : World} (i : Nat) {oi : Oper} (v : Value) (h : wpAnyH P md ops Q S fuel (listed.setIfInBounds i true) (a.put oi.dst v) w)
    (hi : oprAt ops.toList i = some oi := by rfl) (hs : Region.noSelect ops = true := by kernel_rfl) (hf : Region.free md ops listed i = true := by kernel_rfl) (hr : (Region.ready md ops listed).contains i = true := by kernel_rfl)
    (hQ : ∀ c a w, Q (.panic c) (a.put oi.dst v) w → Q (.panic c) a w := by exact fun _ _ _ h => h) (hw : Region.wanted oi (yielded ops a.tmps) = true := by rfl) (hS : S w := by assumption)
    (hy : ∀ w, S w → (execOp a.eval oi).run P w = .ok (.value v) w := by (intro wq hSw; (try dsimp only at hSw); go_simp; first | done | with_reducible rfl)) : wpAnyH P md ops Q S (fuel + 1) listed a w :=
  wpAnyH_take (oprAt_arr hi) hs hf hr hQ (Or.inl ⟨hw, hy⟩) hS h
theorem tv {fuel : Nat} {listed : Array Bool} {a : Act} {w : World} (i : Nat) {oi : Oper} (h : wpAnyH P md ops Q S fuel (listed.setIfInBounds i true) (a.put oi.dst undef) w)
    (hi : oprAt ops.toList i = some oi := by rfl) (hs : Region.noSelect ops = true := by kernel_rfl) (hf : Region.free md ops listed i = true := by kernel_rfl) (hr : (Region.ready md ops listed).contains i = true := by kernel_rfl)
    (hQ : ∀ c a w, Q (.panic c) (a.put oi.dst undef) w → Q (.panic c) a w := by exact fun _ _ _ h => h) (hw : Region.wanted oi (yielded ops a.tmps) = false := by rfl) (hS : S w := by assumption) : wpAnyH P md ops Q S (fuel + 1) listed a w :=
  wpAnyH_take (oprAt_arr hi) hs hf hr hQ (Or.inr ⟨hw, rfl⟩) hS h
theorem rc {fuel : Nat} {listed : Array Bool} {a : Act} {w : World} {i : Nat} {o : Oper} {rs : List Nat}
    (h : ∀ K' : Act → World → Prop, Shut (∀ a w, S w → (S w → wpAnyH P md ops Q S fuel (listed.setIfInBounds i true) a w) → K' a w) → if Region.wanted o (yielded ops a.tmps) = true then Oper.wp P o a w K' Q else K' (a.put o.dst undef) w)
    (hs : AllReadyH P md ops Q S fuel listed a w rs) (ho : oprAt ops.toList i = some o := by rfl) : AllReadyH P md ops Q S fuel listed a w (i :: rs) := AllReadyH.cons (oprAt_arr ho) h hs
theorem rr {fuel : Nat} {listed : Array Bool} {a : Act} {w : World} (rs : List Nat) (h : AllReadyH P md ops Q S fuel listed a w rs) (hr : Region.ready md ops listed = rs := by kernel_rfl) (hne : rs ≠ [] := by simp) : wpAnyH P md ops Q S (fuel + 1) listed a w := wpAnyH_ready hr hne h
end
end Go.Proofs.Ytegnfkbmlalkeaa.kit

namespace Go.Proofs.Ytegnfkbmlalkeaa.kit
open Go.RowKit
def u8s (l : List Int) : List Value := l.map (Value.int .u8)
theorem u8s_length (l : List Int) : (u8s l).length = l.length := by simp [u8s]
theorem u8s_getElem? (l : List Int) (j : Nat) (h : j < l.length) : (u8s l)[j]? = some (.int .u8 (l.getD j 0)) := by
 simp [u8s, List.getD, h]
def Rd (w : World) (B : Nat) (A : Option Addr) (n : Nat) (l : List Int) : Prop :=
 l.length = n ∧ (0 < n → ∃ b o, A = some ⟨b, o, none⟩ ∧ b < B ∧ ∀ j, j < n → w.cell? ⟨b, o + j, none⟩ = some (.int .u8 (l.getD j 0)))
section
variable {w w' : World} {B B' n : Nat} {A : Option Addr} {l : List Int}
theorem Rd.len (h : Rd w B A n l) : l.length = n := h.1
theorem Rd.keep (h : Rd w B A n l) (hk : ∀ b o, b < B → w'.cell? ⟨b, o, none⟩ = w.cell? ⟨b, o, none⟩) : Rd w' B A n l :=
 ⟨h.1, fun hn => by
   obtain ⟨b, o, e, hb, hc⟩ := h.2 hn
   exact ⟨b, o, e, hb, fun j hj => (hk b (o + j) hb).trans (hc j hj)⟩⟩
theorem Rd.below (h : Rd w B A n l) (hb : Below B w w') : Rd w' B A n l := h.keep fun b o hlt => hb.cell (p := ⟨b, o, none⟩) hlt
theorem Rd.more (h : Rd w B A n l) (hB : B ≤ B') : Rd w B' A n l :=
 ⟨h.1, fun hn => by
   obtain ⟨b, o, e, hb, hc⟩ := h.2 hn
   exact ⟨b, o, e, by omega, hc⟩⟩
theorem Rd.on (h : Rd w B A n l) (hb : Below B w w') (hB : B ≤ B') : Rd w' B' A n l := (h.below hb).more hB
theorem Rd.drew (h : Rd w B A n l) : Rd w.drew B A n l := h
theorem Rd.alloc (h : Rd w B A n l) (hB : B ≤ w.heap.size) (o : Obj) : Rd (w.alloc o) B A n l := h.below ((Below.refl _ _).alloc hB o)
theorem Rd.cut {b o p q : Nat} (h : Rd w B (some ⟨b, o, none⟩) n l) (hp : p ≤ q) (hq : q ≤ n) : Rd w B (some ⟨b, o + p, none⟩) (q - p) ((l.drop p).take (q - p)) := by
 refine ⟨by rw [List.length_take, List.length_drop, h.1]; omega, fun hn => ?_⟩
 obtain ⟨b', o', e, hb, hc⟩ := h.2 (by omega)
 simp only [Option.some.injEq, Addr.mk.injEq, and_true] at e
 obtain ⟨rfl, rfl⟩ := e
 refine ⟨b, o + p, rfl, hb, fun j hj => ?_⟩
 rw [Nat.add_assoc, hc (p + j) (by omega), List.getD_eq_getElem?_getD, List.getD_eq_getElem?_getD, List.getElem?_take, if_pos hj, List.getElem?_drop]
theorem Rd.nil (w : World) (B : Nat) (A : Option Addr) : Rd w B A 0 [] := ⟨rfl, fun h => absurd h (by omega)⟩
theorem Rd.pos (h : Rd w B A n l) : 0 < (u8s l).length → ∃ ad, A = some ad ∧ ∀ j u, (u8s l)[j]? = some u → w.cell? (ad.add j) = some u := by
 intro hl
 rw [u8s_length, h.1] at hl
 obtain ⟨b, o, e, _, hc⟩ := h.2 hl
 refine ⟨⟨b, o, none⟩, e, fun j u hu => ?_⟩
 have hj : j < l.length := by
   have := (List.getElem?_eq_some_iff.1 hu).1
   simpa [u8s_length] using this
 rw [u8s_getElem? l j hj] at hu
 obtain rfl := Option.some.inj hu
 rw [Addr.add_lit]
 exact hc j (by rw [← h.1]; exact hj)
end
def Own (E : TypeId) (w : World) (base : Nat) (v : Value) (l : List Int) : Prop := w.ownsRow base E 1 v l.length (u8s l)
section
variable {E : TypeId} {w w' : World} {base base' : Nat} {v : Value} {l : List Int}
theorem Own.nil (E : TypeId) (w : World) (base : Nat) : Own E w base (.slice none 0 0) [] := World.ownsRow_nil w base E 1
theorem Own.lt (h : Own E w base v l) : ∀ k, v.ownBlock = some k → base ≤ k ∧ k < w.heap.size := World.ownsRow.lt h
theorem Own.slice (h : Own E w base v l) : ∃ A c, v = .slice A l.length c ∧ l.length ≤ c ∧ c ≤ maxLen ∧ Rd w w.heap.size A l.length l := by
 have h0 := h
 rcases h.2 with ⟨hv, hn⟩ | ⟨g, cap, cur, rfl, hb, hg, hnc, hcm, hcs, htake⟩
 · exact ⟨none, 0, by rw [hv, hn], by omega, by omega, rfl, fun hp => absurd hp (by omega)⟩
 · refine ⟨_, cap, rfl, hnc, hcm, rfl, fun _ => ⟨g, 0, rfl, (Array.getElem?_eq_some_iff.1 hg).1, fun j hj => ?_⟩⟩
   rw [Nat.zero_add, World.ownsRow.cellAt (show w.ownsRow base E 1 _ _ _ from h0) j (by omega), u8s_getElem? l j hj]
theorem Own.more (h : Own E w base v l) (hB : base' ≤ base) : Own E w base' v l := by
 refine ⟨h.1, ?_⟩
 rcases h.2 with hn | ⟨g, cap, cur, rfl, hb, r⟩
 · exact .inl hn
 · exact .inr ⟨g, cap, cur, rfl, by omega, r⟩
theorem Own.below (h : Own E w base v l) (hb : Below w.heap.size w w') : Own E w' base v l := by
 refine ⟨h.1, ?_⟩
 rcases h.2 with hn | ⟨g, cap, cur, rfl, hbg, hg, r⟩
 · exact .inl hn
 · exact .inr ⟨g, cap, cur, rfl, hbg, by rw [hb.block g (Array.getElem?_eq_some_iff.1 hg).1]; exact hg, r⟩
end
def Blk (E : TypeId) (w : World) (g : Nat) (cs : List Value) : Prop := w.heap[g]? = some (.cells cs.toArray E (0, 0))
section
variable {E : TypeId} {w w' : World} {g : Nat} {cs : List Value}
theorem Blk.lt (h : Blk E w g cs) : g < w.heap.size := (Array.getElem?_eq_some_iff.1 h).1
theorem Blk.drew (h : Blk E w g cs) : Blk E w.drew g cs := h
theorem Blk.below {B : Nat} (h : Blk E w g cs) (hb : Below B w w') (hg : g < B) : Blk E w' g cs := (hb.block g hg).trans h
theorem Blk.alloc (h : Blk E w g cs) (o : Obj) : Blk E (w.alloc o) g cs := h.below ((Below.refl _ _).alloc (Nat.le_refl _) o) h.lt
theorem Blk.cell (h : Blk E w g cs) (j : Nat) : w.cell? ⟨g, j, none⟩ = cs[j]? := by
 rw [cell_of_row w g j _ E (0, 0) h]; simp
theorem Blk.frozen (h : Blk E w g cs) (j : Nat) : w.frozen? ⟨g, j, none⟩ = false := by
 unfold Blk at h; simp [World.frozen?, h]
theorem Blk.set_ (h : Blk E w g cs) (j : Nat) (u : Value) : Blk E (w.setCell ⟨g, j, none⟩ u) g (cs.set j u) := by
 unfold Blk at h ⊢
 simp [World.setCell, Array.getElem?_modify, h]
theorem Blk.far (h : Blk E w g cs) {p : Addr} (hp : g ≠ p.block) (u : Value) : Blk E (w.setCell p u) g cs := (Below.heap_setCell w p u g hp).trans h
end
theorem own_of_block {E : TypeId} {w : World} {base g : Nat} {cs : List Value} {l : List Int} {n c : Nat} (hb : base ≤ g) (hg : Blk E w g cs) (hn : l.length = n) (hl : n ≤ c) (hc : c ≤ 140737488355328)
   (hs : cs.length = c) (ht : cs.take n = u8s l) : Own E w base (.slice (some ⟨g, 0, none⟩) n c) l := by
 subst hn
 exact ⟨by rw [u8s_length, Nat.mul_one], .inr ⟨g, c, cs.toArray, rfl, hb, hg, hl, by unfold maxLen; omega, by simpa using hs, by simpa using ht⟩⟩
theorem run_append_src_none {P : Program} (w : World) (base : Nat) (t ty e : TypeId) (i : TypeInfo) (ht : P.underlying t = some (.slice e)) (hi : P.info? e = some i)
   (v : Value) (n : Nat) (xs : List Value) (hown : w.ownsRow base e 1 v n xs) (c : Nat) :
   (Builtin.append_ #[t, t] ty #[v, .slice none 0 c]).run P w = .ok v w := by
 rcases hown.2 with ⟨rfl, rfl⟩ | ⟨g, cap, cur, rfl, _, _, hnc, _⟩
 · simp [Builtin.append_, run_underlying ht, sizeOf, typeInfo, hi, Builtin.lenOf, Builtin.firstCells]
 · simp [Builtin.append_, run_underlying ht, sizeOf, typeInfo, hi, Builtin.lenOf, Builtin.firstCells, hnc, storeCells]
theorem Rd.one (w : World) (E : TypeId) (z : Int) : Rd (w.alloc (.cells #[.int .u8 z] E)) (w.heap.size + 1) (some ⟨w.heap.size, 0, none⟩) 1 [z] := by
 refine ⟨rfl, fun _ => ⟨_, 0, rfl, by omega, fun j hj => ?_⟩⟩
 obtain rfl : j = 0 := by omega
 have hb : Blk E (w.alloc (.cells #[.int .u8 z] E)) w.heap.size [.int .u8 z] := heap_alloc_new w _
 rw [hb.cell]
 rfl
theorem Own.empty (w : World) (E : TypeId) {base : Nat} (hb : base ≤ w.heap.size) : Own E (w.alloc (.cells #[] E)) base (.slice (some ⟨w.heap.size, 0, none⟩) 0 0) [] := by
 have h : Blk E (w.alloc (.cells #[] E)) w.heap.size [] := heap_alloc_new w _
 exact ⟨rfl, .inr ⟨w.heap.size, 0, #[], rfl, hb, h, Nat.le_refl _, by unfold maxLen; omega, rfl, rfl⟩⟩
theorem Own.alloc {E : TypeId} {w : World} {base : Nat} {v : Value} {l : List Int} (h : Own E w base v l) (o : Obj) : Own E (w.alloc o) base v l := h.below ((Below.refl _ _).alloc (Nat.le_refl _) o)
theorem Own.drew {E : TypeId} {w : World} {base : Nat} {v : Value} {l : List Int} (h : Own E w base v l) : Own E w.drew base v l := h
end Go.Proofs.Ytegnfkbmlalkeaa.kit
namespace Go.Proofs.Ytegnfkbmlalkeaa.kit
open Go Go.RowKit
theorem Blk.b {w w' : World} {g : Nat} {E : TypeId} {cs : List Value} (h : Blk E w g cs) (hb : Below w.heap.size w w') : Blk E w' g cs := h.below hb h.lt
theorem bt {w y z : World} (h : Below w.heap.size w y) (hy : Below y.heap.size y z) : Below w.heap.size w z := h.trans (hy.mono h.size)
end Go.Proofs.Ytegnfkbmlalkeaa.kit

namespace Go.Proofs.Ytegnfkbmlalkeaa.nums
def Byt (l : List Int) : Prop := ∀ x ∈ l, 0 ≤ x ∧ x ≤ 255
theorem Byt.nil : Byt [] := fun x h => by cases h
theorem Byt.append {l m : List Int} (h : Byt l) (k : Byt m) : Byt (l ++ m) := fun x hx => by
 rcases List.mem_append.1 hx with hx | hx
 · exact h x hx
 · exact k x hx
theorem Byt.one {x : Int} (h0 : 0 ≤ x) (h1 : x ≤ 255) : Byt [x] := fun y hy => by
 rw [List.mem_singleton] at hy; subst hy; exact ⟨h0, h1⟩
theorem Byt.at_ {l : List Int} (h : Byt l) (j : Nat) : 0 ≤ l.getD j 0 ∧ l.getD j 0 ≤ 255 := by
 rw [List.getD_eq_getElem?_getD]
 rcases e : l[j]? with _ | x
 · simp
 · exact h x (List.mem_of_getElem? e)
theorem Byt.take {l : List Int} (h : Byt l) (j : Nat) : Byt (l.take j) := fun x hx => h x (List.mem_of_mem_take hx)
theorem Byt.drop {l : List Int} (h : Byt l) (j : Nat) : Byt (l.drop j) := fun x hx => h x (List.mem_of_mem_drop hx)
end Go.Proofs.Ytegnfkbmlalkeaa.nums
namespace Go.Proofs.Ytegnfkbmlalkeaa.bytes
open Go.RowKit Go.Proofs.Ytegnfkbmlalkeaa.kit
set_option linter.unusedVariables false
def IsTwin (w : World) (g : Nat) (l : List Int) : Prop := Blk 5 w g (u8s (l ++ [229, 229, 229]))
theorem IsTwin.below {w w' : World} {g B : Nat} {l : List Int} (h : IsTwin w g l) (hb : Below B w w') (hg : g < B) : IsTwin w' g l := Blk.below h hb hg
theorem IsTwin.lt {w : World} {g : Nat} {l : List Int} (h : IsTwin w g l) : g < w.heap.size := Blk.lt h
end Go.Proofs.Ytegnfkbmlalkeaa.bytes
