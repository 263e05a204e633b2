/- How configurations, joints, and slices of configurations, that come in read, in the words of the kit (stage 10). No condition. -/
import Derived.Deep.RegionHeld3
import Derived.Lib.Hide
import Derived.WalkKit
import Derived.WalkLawsBesides
import Derived.WalkSpells
import Derived.OwnWalk
import Derived.Laws.CopyOwn
import Derived.Laws.BytesArg
import Derived.RowKit
import Derived.Laws.Bits64
import Derived.Lib.EndianBits
import Derived.Handy
import Derived.Laws.Slices
import Derived.ArgAppend
import Derived.Laws.StructEq
import Derived.Test.YtegnfkbmlalkeaaGreatProg
import Derived.Test.YtegnfkbmlalkeaaGreatRows
import Derived.ProofKit
import Derived.OpenShut
set_option linter.unusedVariables false
set_option maxHeartbeats 16000000
set_option maxRecDepth 10000
namespace Go.Proofs.YtegnfkbmlalkeaaGreat.kit
open Go
variable {P : Program} {ops : Array Oper} {md : Region.Mode} {Q : Exit → Act → World → Prop} {S : World → Prop}
theorem tk {fuel : Nat} {listed : Array Bool} {a : Act} {w : World} (i : Nat) (oi : Oper) (v : Value) (h : wpAnyH P md ops Q S fuel (listed.setIfInBounds i true) (a.put oi.dst v) w)
  (hi : ops[i]? = some oi := by rfl) (hs : Region.noSelect ops = true := by kernel_rfl) (hf : Region.free md ops listed i = true := by kernel_rfl) (hr : (Region.ready md ops listed).contains i = true := by kernel_rfl)
  (hQ : ∀ c a w, Q (.panic c) (a.put oi.dst v) w → Q (.panic c) a w := by exact fun _ _ _ h => h) (hw : Region.wanted oi (yielded ops a.tmps) = true := by rfl) (hS : S w := by assumption)
  (hy : ∀ w, S w → (execOp a.eval oi).run P w = .ok (.value v) w := by (intro wq hSw; (try dsimp only at hSw); go_simp; first | done | with_reducible rfl)) : wpAnyH P md ops Q S (fuel + 1) listed a w :=
 wpAnyH_take hi hs hf hr hQ (Or.inl ⟨hw, hy⟩) hS h
theorem tu {fuel : Nat} {listed : Array Bool} {a : Act} {w : World} (i : Nat) (oi : Oper) (h : wpAnyH P md ops Q S fuel (listed.setIfInBounds i true) (a.put oi.dst undef) w)
  (hi : ops[i]? = some oi := by rfl) (hs : Region.noSelect ops = true := by kernel_rfl) (hf : Region.free md ops listed i = true := by kernel_rfl) (hr : (Region.ready md ops listed).contains i = true := by kernel_rfl)
  (hQ : ∀ c a w, Q (.panic c) (a.put oi.dst undef) w → Q (.panic c) a w := by exact fun _ _ _ h => h) (hw : Region.wanted oi (yielded ops a.tmps) = false := by rfl) (hS : S w := by assumption) : wpAnyH P md ops Q S (fuel + 1) listed a w :=
 wpAnyH_take hi hs hf hr hQ (Or.inr ⟨hw, rfl⟩) hS h
end Go.Proofs.YtegnfkbmlalkeaaGreat.kit
namespace Go.Proofs.YtegnfkbmlalkeaaGreat.kit
open Go
theorem ka {α : Type} (l : List α) (i : Nat) (x : α) : l.toArray.setIfInBounds i x = (l.set i x).toArray := List.setIfInBounds_toArray ..
theorem kb {α : Type} (y x : α) (l : List α) : (y :: l).set 0 x = x :: l := rfl
theorem kc {α : Type} (y x : α) (l : List α) (n : Nat) : (y :: l).set (n + 1) x = y :: l.set n x := rfl
def oprAt : List Oper → Nat → Option Oper
 | [], _ => none
 | o :: _, 0 => some o
 | _ :: l, n + 1 => oprAt l n
theorem oprAt_get : ∀ (l : List Oper) (i : Nat), oprAt l i = l[i]?
 | [], i => by cases i <;> rfl
 | o :: l, 0 => rfl
 | o :: l, n + 1 => by rw [oprAt, oprAt_get l n]; rfl
section
variable {P : Program} {ops : Array Oper} {md : Region.Mode} {Q : Exit → Act → World → Prop} {S : World → Prop}
theorem oprAt_arr {i : Nat} {o : Oper} (h : oprAt ops.toList i = some o) : ops[i]? = some o := by rw [← Array.getElem?_toList, ← oprAt_get]; exact h
theorem tj {fuel : Nat} {listed : Array Bool} {a : Act} {w : World} (i : Nat) {oi : Oper} (v : Value) (h : wpAnyH P md ops Q S fuel (listed.setIfInBounds i true) (a.put oi.dst v) w)
  (hi : oprAt ops.toList i = some oi := by rfl) (hs : Region.noSelect ops = true := by kernel_rfl) (hf : Region.free md ops listed i = true := by kernel_rfl) (hr : (Region.ready md ops listed).contains i = true := by kernel_rfl)
  (hQ : ∀ c a w, Q (.panic c) (a.put oi.dst v) w → Q (.panic c) a w := by exact fun _ _ _ h => h) (hw : Region.wanted oi (yielded ops a.tmps) = true := by rfl) (hS : S w := by assumption)
  (hy : ∀ w, S w → (execOp a.eval oi).run P w = .ok (.value v) w := by (intro wq hSw; (try dsimp only at hSw); go_simp; first | done | with_reducible rfl)) : wpAnyH P md ops Q S (fuel + 1) listed a w :=
 wpAnyH_take (oprAt_arr hi) hs hf hr hQ (Or.inl ⟨hw, hy⟩) hS h
def nxt : List Bool → Nat → Nat → Option Nat
 | [], _, _ => none
 | b :: l, s, k => cond (b || Nat.blt k s) (nxt l s (k + 1)) (some k)
theorem tx {fuel : Nat} {listed : Array Bool} {a : Act} {w : World} (s : Nat) {i : Nat} {oi : Oper} (v : Value) (h : wpAnyH P md ops Q S fuel (listed.setIfInBounds i true) (a.put oi.dst v) w)
  (hn : nxt listed.toList s 0 = some i := by rfl) (hi : oprAt ops.toList i = some oi := by rfl) (hs : Region.noSelect ops = true := by kernel_rfl) (hf : Region.free md ops listed i = true := by kernel_rfl) (hr : (Region.ready md ops listed).contains i = true := by kernel_rfl)
  (hQ : ∀ c a w, Q (.panic c) (a.put oi.dst v) w → Q (.panic c) a w := by exact fun _ _ _ h => h) (hw : Region.wanted oi (yielded ops a.tmps) = true := by rfl) (hS : S w := by assumption)
  (hy : ∀ w, S w → (execOp a.eval oi).run P w = .ok (.value v) w := by (intro wq hSw; (try dsimp only at hSw); go_simp; first | done | with_reducible rfl)) : wpAnyH P md ops Q S (fuel + 1) listed a w :=
 wpAnyH_take (oprAt_arr hi) hs hf hr hQ (Or.inl ⟨hw, hy⟩) hS h
theorem tv {fuel : Nat} {listed : Array Bool} {a : Act} {w : World} (i : Nat) {oi : Oper} (h : wpAnyH P md ops Q S fuel (listed.setIfInBounds i true) (a.put oi.dst undef) w)
  (hi : oprAt ops.toList i = some oi := by rfl) (hs : Region.noSelect ops = true := by kernel_rfl) (hf : Region.free md ops listed i = true := by kernel_rfl) (hr : (Region.ready md ops listed).contains i = true := by kernel_rfl)
  (hQ : ∀ c a w, Q (.panic c) (a.put oi.dst undef) w → Q (.panic c) a w := by exact fun _ _ _ h => h) (hw : Region.wanted oi (yielded ops a.tmps) = false := by rfl) (hS : S w := by assumption) : wpAnyH P md ops Q S (fuel + 1) listed a w :=
 wpAnyH_take (oprAt_arr hi) hs hf hr hQ (Or.inr ⟨hw, rfl⟩) hS h
theorem rc {fuel : Nat} {listed : Array Bool} {a : Act} {w : World} {i : Nat} {o : Oper} {rs : List Nat}
  (h : ∀ K' : Act → World → Prop, Shut (∀ a w, S w → (S w → wpAnyH P md ops Q S fuel (listed.setIfInBounds i true) a w) → K' a w) → if Region.wanted o (yielded ops a.tmps) = true then Oper.wp P o a w K' Q else K' (a.put o.dst undef) w)
  (hs : AllReadyH P md ops Q S fuel listed a w rs) (ho : oprAt ops.toList i = some o := by rfl) : AllReadyH P md ops Q S fuel listed a w (i :: rs) := AllReadyH.cons (oprAt_arr ho) h hs
theorem rr {fuel : Nat} {listed : Array Bool} {a : Act} {w : World} (rs : List Nat) (h : AllReadyH P md ops Q S fuel listed a w rs) (hr : Region.ready md ops listed = rs := by kernel_rfl) (hne : rs ≠ [] := by simp) : wpAnyH P md ops Q S (fuel + 1) listed a w := wpAnyH_ready hr hne h
end
end Go.Proofs.YtegnfkbmlalkeaaGreat.kit
namespace Go.Proofs.YtegnfkbmlalkeaaGreat.kit
open Go
theorem Lh {p : Prop} (h : p) : Go.RowKit.Hid p := Lib.hid h
end Go.Proofs.YtegnfkbmlalkeaaGreat.kit
namespace Go.Proofs.YtegnfkbmlalkeaaGreat.kit
open Go.RowKit
def u8s (l : List Int) : List Value := l.map (Value.int .u8)
theorem u8s_length (l : List Int) : (u8s l).length = l.length := by simp [u8s]
theorem u8s_getElem? (l : List Int) (j : Nat) (h : j < l.length) : (u8s l)[j]? = some (.int .u8 (l.getD j 0)) := by
 simp [u8s, List.getD, h]
def Rd (w : World) (B : Nat) (A : Option Addr) (n : Nat) (l : List Int) : Prop :=
 l.length = n ∧ (0 < n → ∃ b o, A = some ⟨b, o, none⟩ ∧ b < B ∧ ∀ j, j < n → w.cell? ⟨b, o + j, none⟩ = some (.int .u8 (l.getD j 0)))
section
variable {w w' : World} {B B' n : Nat} {A : Option Addr} {l : List Int}
theorem Rd.len (h : Rd w B A n l) : l.length = n := h.1
theorem Rd.keep (h : Rd w B A n l) (hk : ∀ b o, b < B → w'.cell? ⟨b, o, none⟩ = w.cell? ⟨b, o, none⟩) : Rd w' B A n l :=
 ⟨h.1, fun hn => by
  obtain ⟨b, o, e, hb, hc⟩ := h.2 hn
  exact ⟨b, o, e, hb, fun j hj => (hk b (o + j) hb).trans (hc j hj)⟩⟩
theorem Rd.below (h : Rd w B A n l) (hb : Below B w w') : Rd w' B A n l := h.keep fun b o hlt => hb.cell (p := ⟨b, o, none⟩) hlt
theorem Rd.more (h : Rd w B A n l) (hB : B ≤ B') : Rd w B' A n l :=
 ⟨h.1, fun hn => by
  obtain ⟨b, o, e, hb, hc⟩ := h.2 hn
  exact ⟨b, o, e, by omega, hc⟩⟩
theorem Rd.on (h : Rd w B A n l) (hb : Below B w w') (hB : B ≤ B') : Rd w' B' A n l := (h.below hb).more hB
theorem Rd.drew (h : Rd w B A n l) : Rd w.drew B A n l := h
theorem Rd.alloc (h : Rd w B A n l) (hB : B ≤ w.heap.size) (o : Obj) : Rd (w.alloc o) B A n l := h.below ((Below.refl _ _).alloc hB o)
theorem Rd.cut {b o p q : Nat} (h : Rd w B (some ⟨b, o, none⟩) n l) (hp : p ≤ q) (hq : q ≤ n) : Rd w B (some ⟨b, o + p, none⟩) (q - p) ((l.drop p).take (q - p)) := by
 refine ⟨by rw [List.length_take, List.length_drop, h.1]; omega, fun hn => ?_⟩
 obtain ⟨b', o', e, hb, hc⟩ := h.2 (by omega)
 simp only [Option.some.injEq, Addr.mk.injEq, and_true] at e
 obtain ⟨rfl, rfl⟩ := e
 refine ⟨b, o + p, rfl, hb, fun j hj => ?_⟩
 rw [Nat.add_assoc, hc (p + j) (by omega), List.getD_eq_getElem?_getD, List.getD_eq_getElem?_getD, List.getElem?_take, if_pos hj, List.getElem?_drop]
theorem Rd.nil (w : World) (B : Nat) (A : Option Addr) : Rd w B A 0 [] := ⟨rfl, fun h => absurd h (by omega)⟩
theorem Rd.pos (h : Rd w B A n l) : 0 < (u8s l).length → ∃ ad, A = some ad ∧ ∀ j u, (u8s l)[j]? = some u → w.cell? (ad.add j) = some u := by
 intro hl
 rw [u8s_length, h.1] at hl
 obtain ⟨b, o, e, _, hc⟩ := h.2 hl
 refine ⟨⟨b, o, none⟩, e, fun j u hu => ?_⟩
 have hj : j < l.length := by
  have := (List.getElem?_eq_some_iff.1 hu).1
  simpa [u8s_length] using this
 rw [u8s_getElem? l j hj] at hu
 obtain rfl := Option.some.inj hu
 rw [Addr.add_lit]
 exact hc j (by rw [← h.1]; exact hj)
end
def Own (E : TypeId) (w : World) (base : Nat) (v : Value) (l : List Int) : Prop := w.ownsRow base E 1 v l.length (u8s l)
section
variable {E : TypeId} {w w' : World} {base base' : Nat} {v : Value} {l : List Int}
theorem Own.nil (E : TypeId) (w : World) (base : Nat) : Own E w base (.slice none 0 0) [] := World.ownsRow_nil w base E 1
theorem Own.lt (h : Own E w base v l) : ∀ k, v.ownBlock = some k → base ≤ k ∧ k < w.heap.size := World.ownsRow.lt h
theorem Own.slice (h : Own E w base v l) : ∃ A c, v = .slice A l.length c ∧ l.length ≤ c ∧ c ≤ maxLen ∧ Rd w w.heap.size A l.length l := by
 have h0 := h
 rcases h.2 with ⟨hv, hn⟩ | ⟨g, cap, cur, rfl, hb, hg, hnc, hcm, hcs, htake⟩
 · exact ⟨none, 0, by rw [hv, hn], by omega, by omega, rfl, fun hp => absurd hp (by omega)⟩
 ·
  refine ⟨_, cap, rfl, hnc, hcm, rfl, fun _ => ⟨g, 0, rfl, (Array.getElem?_eq_some_iff.1 hg).1, fun j hj => ?_⟩⟩
  rw [Nat.zero_add, World.ownsRow.cellAt (show w.ownsRow base E 1 _ _ _ from h0) j (by omega), u8s_getElem? l j hj]
theorem Own.more (h : Own E w base v l) (hB : base' ≤ base) : Own E w base' v l := by
 refine ⟨h.1, ?_⟩
 rcases h.2 with hn | ⟨g, cap, cur, rfl, hb, r⟩
 · exact .inl hn
 · exact .inr ⟨g, cap, cur, rfl, by omega, r⟩
theorem Own.below (h : Own E w base v l) (hb : Below w.heap.size w w') : Own E w' base v l := by
 refine ⟨h.1, ?_⟩
 rcases h.2 with hn | ⟨g, cap, cur, rfl, hbg, hg, r⟩
 · exact .inl hn
 · exact .inr ⟨g, cap, cur, rfl, hbg, by rw [hb.block g (Array.getElem?_eq_some_iff.1 hg).1]; exact hg, r⟩
end
def Blk (E : TypeId) (w : World) (g : Nat) (cs : List Value) : Prop := w.heap[g]? = some (.cells cs.toArray E (0, 0))
section
variable {E : TypeId} {w w' : World} {g : Nat} {cs : List Value}
theorem Blk.lt (h : Blk E w g cs) : g < w.heap.size := (Array.getElem?_eq_some_iff.1 h).1
theorem Blk.drew (h : Blk E w g cs) : Blk E w.drew g cs := h
theorem Blk.below {B : Nat} (h : Blk E w g cs) (hb : Below B w w') (hg : g < B) : Blk E w' g cs := (hb.block g hg).trans h
theorem Blk.alloc (h : Blk E w g cs) (o : Obj) : Blk E (w.alloc o) g cs := h.below ((Below.refl _ _).alloc (Nat.le_refl _) o) h.lt
theorem Blk.cell (h : Blk E w g cs) (j : Nat) : w.cell? ⟨g, j, none⟩ = cs[j]? := by
 rw [cell_of_row w g j _ E (0, 0) h]; simp
theorem Blk.frozen (h : Blk E w g cs) (j : Nat) : w.frozen? ⟨g, j, none⟩ = false := by
 unfold Blk at h; simp [World.frozen?, h]
theorem Blk.rd {l : List Int} {n : Nat} (h : Blk E w g cs) (ht : cs.take n = u8s l) (hn : l.length = n) {B : Nat} (hB : g < B) : Rd w B (some ⟨g, 0, none⟩) n l :=
 ⟨hn, fun _ => ⟨g, 0, rfl, hB, fun j hj => by
  rw [Nat.zero_add, h.cell j]
  have e : (cs.take n)[j]? = cs[j]? := by rw [List.getElem?_take, if_pos hj]
  rw [← e, ht, u8s_getElem? l j (by omega)]⟩⟩
theorem Blk.set_ (h : Blk E w g cs) (j : Nat) (u : Value) : Blk E (w.setCell ⟨g, j, none⟩ u) g (cs.set j u) := by
 unfold Blk at h ⊢
 simp [World.setCell, Array.getElem?_modify, h]
theorem Blk.far (h : Blk E w g cs) {p : Addr} (hp : g ≠ p.block) (u : Value) : Blk E (w.setCell p u) g cs := (Below.heap_setCell w p u g hp).trans h
end
theorem own_of_block {E : TypeId} {w : World} {base g : Nat} {cs : List Value} {l : List Int} {n c : Nat} (hb : base ≤ g) (hg : Blk E w g cs) (hn : l.length = n) (hl : n ≤ c) (hc : c ≤ 140737488355328)
  (hs : cs.length = c) (ht : cs.take n = u8s l) : Own E w base (.slice (some ⟨g, 0, none⟩) n c) l := by
 subst hn
 exact ⟨by rw [u8s_length, Nat.mul_one], .inr ⟨g, c, cs.toArray, rfl, hb, hg, hl, by unfold maxLen; omega, by simpa using hs, by simpa using ht⟩⟩
theorem run_append_src_none {P : Program} (w : World) (base : Nat) (t ty e : TypeId) (i : TypeInfo) (ht : P.underlying t = some (.slice e)) (hi : P.info? e = some i)
  (v : Value) (n : Nat) (xs : List Value) (hown : w.ownsRow base e 1 v n xs) (c : Nat) :
  (Builtin.append_ #[t, t] ty #[v, .slice none 0 c]).run P w = .ok v w := by
 rcases hown.2 with ⟨rfl, rfl⟩ | ⟨g, cap, cur, rfl, _, _, hnc, _⟩
 · simp [Builtin.append_, run_underlying ht, sizeOf, typeInfo, hi, Builtin.lenOf, Builtin.firstCells]
 · simp [Builtin.append_, run_underlying ht, sizeOf, typeInfo, hi, Builtin.lenOf, Builtin.firstCells, hnc, storeCells]
theorem Rd.one (w : World) (E : TypeId) (z : Int) : Rd (w.alloc (.cells #[.int .u8 z] E)) (w.heap.size + 1) (some ⟨w.heap.size, 0, none⟩) 1 [z] := by
 refine ⟨rfl, fun _ => ⟨_, 0, rfl, by omega, fun j hj => ?_⟩⟩
 obtain rfl : j = 0 := by omega
 have hb : Blk E (w.alloc (.cells #[.int .u8 z] E)) w.heap.size [.int .u8 z] := heap_alloc_new w _
 rw [hb.cell]
 rfl
theorem Own.empty (w : World) (E : TypeId) {base : Nat} (hb : base ≤ w.heap.size) : Own E (w.alloc (.cells #[] E)) base (.slice (some ⟨w.heap.size, 0, none⟩) 0 0) [] := by
 have h : Blk E (w.alloc (.cells #[] E)) w.heap.size [] := heap_alloc_new w _
 exact ⟨rfl, .inr ⟨w.heap.size, 0, #[], rfl, hb, h, Nat.le_refl _, by unfold maxLen; omega, rfl, rfl⟩⟩
theorem Own.alloc {E : TypeId} {w : World} {base : Nat} {v : Value} {l : List Int} (h : Own E w base v l) (o : Obj) : Own E (w.alloc o) base v l := h.below ((Below.refl _ _).alloc (Nat.le_refl _) o)
theorem Own.drew {E : TypeId} {w : World} {base : Nat} {v : Value} {l : List Int} (h : Own E w base v l) : Own E w.drew base v l := h
end Go.Proofs.YtegnfkbmlalkeaaGreat.kit
namespace Go.Proofs.YtegnfkbmlalkeaaGreat.kit
open Go Go.RowKit
theorem Blk.b {w w' : World} {g : Nat} {E : TypeId} {cs : List Value} (h : Blk E w g cs) (hb : Below w.heap.size w w') : Blk E w' g cs := h.below hb h.lt
theorem bt {w y z : World} (h : Below w.heap.size w y) (hy : Below y.heap.size y z) : Below w.heap.size w z := h.trans (hy.mono h.size)
end Go.Proofs.YtegnfkbmlalkeaaGreat.kit
namespace Go.Proofs.YtegnfkbmlalkeaaGreat.nums
def Byt (l : List Int) : Prop := ∀ x ∈ l, 0 ≤ x ∧ x ≤ 255
theorem Byt.nil : Byt [] := fun x h => by cases h
theorem Byt.append {l m : List Int} (h : Byt l) (k : Byt m) : Byt (l ++ m) := fun x hx => by
 rcases List.mem_append.1 hx with hx | hx
 · exact h x hx
 · exact k x hx
theorem Byt.one {x : Int} (h0 : 0 ≤ x) (h1 : x ≤ 255) : Byt [x] := fun y hy => by
 rw [List.mem_singleton] at hy; subst hy; exact ⟨h0, h1⟩
theorem Byt.at_ {l : List Int} (h : Byt l) (j : Nat) : 0 ≤ l.getD j 0 ∧ l.getD j 0 ≤ 255 := by
 rw [List.getD_eq_getElem?_getD]
 rcases e : l[j]? with _ | x
 · simp
 · exact h x (List.mem_of_getElem? e)
theorem Byt.take {l : List Int} (h : Byt l) (j : Nat) : Byt (l.take j) := fun x hx => h x (List.mem_of_mem_take hx)
theorem Byt.drop {l : List Int} (h : Byt l) (j : Nat) : Byt (l.drop j) := fun x hx => h x (List.mem_of_mem_drop hx)
end Go.Proofs.YtegnfkbmlalkeaaGreat.nums
namespace Go.Proofs.YtegnfkbmlalkeaaGreat.kit
open Go.RowKit nums
def RdV (w : World) (B : Nat) (A : Option Addr) (n : Nat) (xs : List Value) : Prop :=
 xs.length = n ∧ (0 < n → ∃ b o, A = some ⟨b, o, none⟩ ∧ b < B ∧ ∀ j, j < n → w.cell? ⟨b, o + j, none⟩ = xs[j]?)
def OwnV (E : TypeId) (w : World) (base : Nat) (v : Value) (xs : List Value) : Prop := w.ownsRow base E 1 v xs.length xs
section
variable {w w' : World} {B B' n : Nat} {A : Option Addr} {xs : List Value}
theorem RdV.keep (h : RdV w B A n xs) (hk : ∀ b o, b < B → w'.cell? ⟨b, o, none⟩ = w.cell? ⟨b, o, none⟩) : RdV w' B A n xs :=
 ⟨h.1, fun hn => by
  obtain ⟨b, o, e, hb, hc⟩ := h.2 hn
  exact ⟨b, o, e, hb, fun j hj => (hk b (o + j) hb).trans (hc j hj)⟩⟩
theorem RdV.below (h : RdV w B A n xs) (hb : Below B w w') : RdV w' B A n xs := h.keep fun b o hlt => hb.cell (p := ⟨b, o, none⟩) hlt
theorem RdV.more (h : RdV w B A n xs) (hB : B ≤ B') : RdV w B' A n xs :=
 ⟨h.1, fun hn => by
  obtain ⟨b, o, e, hb, hc⟩ := h.2 hn
  exact ⟨b, o, e, by omega, hc⟩⟩
theorem RdV.on (h : RdV w B A n xs) (hb : Below B w w') (hB : B ≤ B') : RdV w' B' A n xs := (h.below hb).more hB
theorem RdV.nil (w : World) (B : Nat) (A : Option Addr) : RdV w B A 0 [] := ⟨rfl, fun h => absurd h (by omega)⟩
theorem RdV.pos (h : RdV w B A n xs) : 0 < xs.length → ∃ ad, A = some ad ∧ ∀ j u, xs[j]? = some u → w.cell? (ad.add j) = some u := by
 intro hl
 rw [h.1] at hl
 obtain ⟨b, o, e, _, hc⟩ := h.2 hl
 refine ⟨⟨b, o, none⟩, e, fun j u hu => ?_⟩
 have hj : j < xs.length := (List.getElem?_eq_some_iff.1 hu).1
 rw [Addr.add_lit, ← hu]
 exact hc j (by rw [← h.1]; exact hj)
theorem RdV.at_ (h : RdV w B A n xs) {j : Nat} (hj : j < n) : ∃ b o u, A = some ⟨b, o, none⟩ ∧ xs[j]? = some u ∧ w.cell? ⟨b, o + j, none⟩ = some u := by
 obtain ⟨b, o, e, _, hc⟩ := h.2 (by omega)
 have hl : j < xs.length := by have := h.1; omega
 exact ⟨b, o, xs[j], e, List.getElem?_eq_getElem hl, by rw [hc j hj, List.getElem?_eq_getElem hl]⟩
theorem RdV.one (w : World) (E : TypeId) (z : Value) : RdV (w.alloc (.cells #[z] E)) (w.heap.size + 1) (some ⟨w.heap.size, 0, none⟩) 1 [z] := by
 refine ⟨rfl, fun _ => ⟨_, 0, rfl, by omega, fun j hj => ?_⟩⟩
 obtain rfl : j = 0 := by omega
 have hb : Blk E (w.alloc (.cells #[z] E)) w.heap.size [z] := heap_alloc_new w _
 rw [hb.cell]
end
section
variable {E : TypeId} {w w' : World} {base base' : Nat} {v : Value} {xs : List Value}
theorem OwnV.nil (E : TypeId) (w : World) (base : Nat) : OwnV E w base (.slice none 0 0) [] := World.ownsRow_nil w base E 1
theorem OwnV.lt (h : OwnV E w base v xs) : ∀ k, v.ownBlock = some k → base ≤ k ∧ k < w.heap.size := World.ownsRow.lt h
theorem OwnV.slice (h : OwnV E w base v xs) : ∃ A c, v = .slice A xs.length c ∧ xs.length ≤ c ∧ c ≤ maxLen ∧ RdV w w.heap.size A xs.length xs := by
 have h0 := h
 rcases h.2 with ⟨hv, hn⟩ | ⟨g, cap, cur, rfl, hb, hg, hnc, hcm, hcs, htake⟩
 · exact ⟨none, 0, by rw [hv, hn], by omega, by omega, rfl, fun hp => absurd hp (by omega)⟩
 ·
  refine ⟨_, cap, rfl, hnc, hcm, rfl, fun _ => ⟨g, 0, rfl, (Array.getElem?_eq_some_iff.1 hg).1, fun j hj => ?_⟩⟩
  rw [Nat.zero_add, World.ownsRow.cellAt (show w.ownsRow base E 1 _ _ _ from h0) j (by omega)]
theorem OwnV.below (h : OwnV E w base v xs) (hb : Below w.heap.size w w') : OwnV E w' base v xs := by
 refine ⟨h.1, ?_⟩
 rcases h.2 with hn | ⟨g, cap, cur, rfl, hbg, hg, r⟩
 · exact .inl hn
 · exact .inr ⟨g, cap, cur, rfl, hbg, by rw [hb.block g (Array.getElem?_eq_some_iff.1 hg).1]; exact hg, r⟩
theorem OwnV.more (h : OwnV E w base v xs) (hB : base' ≤ base) : OwnV E w base' v xs := by
 refine ⟨h.1, ?_⟩
 rcases h.2 with hn | ⟨g, cap, cur, rfl, hb, r⟩
 · exact .inl hn
 · exact .inr ⟨g, cap, cur, rfl, by omega, r⟩
theorem OwnV.alloc (h : OwnV E w base v xs) (o : Obj) : OwnV E (w.alloc o) base v xs := h.below ((Below.refl _ _).alloc (Nat.le_refl _) o)
end
theorem run_append_v {P : Program} (w : World) (base : Nat) (t ty e : TypeId) (z : Value) (by_ : Nat) (ht : P.underlying t = some (.slice e)) (h2 : (P.info? e).map (fun i => (i.zero, i.size, i.bytes)) = some (some z, 1, by_)) (hz : z.cells.size = 1)
  (A : Option Addr) (n c : Nat) (xs : List Value) (hn : xs.length = n) (hown : OwnV e w base (.slice A n c) xs)
  (B : Nat) (X : Option Addr) (m xc : Nat) (news : List Value) (hR : RdV w B X m news) (h1 : ∀ u ∈ news, u.oneCell' = true) (hb : (n + m) * by_ ≤ 140737488355328) (h63 : n + m ≤ maxLen) (hbase : base ≤ w.heap.size) :
  ∃ A' c' w', (Builtin.append_ #[t, t] ty #[.slice A n c, .slice X m xc]).run P w = .ok (.slice A' (n + m) c') w' ∧ OwnV e w' base (.slice A' (n + m) c') (xs ++ news) ∧ Below base w w' ∧ w.grownBy w' (Value.ownBlock (.slice A n c)) := by
 obtain ⟨i, hi, hz0, hz1, hz2⟩ := info_parts h2
 have hm : news.length = m := hR.1
 have hown' : w.ownsRow base e 1 (.slice A n c) n xs := by unfold OwnV at hown; rw [hn] at hown; exact hown
 have hfin : ∀ (v' : Value) (w' : World), w'.ownsRow base e 1 v' (n + m) (xs ++ news) → w.grownBy w' (Value.ownBlock (.slice A n c)) → ∃ A' c', v' = .slice A' (n + m) c' ∧ OwnV e w' base (.slice A' (n + m) c') (xs ++ news) ∧ Below base w w' := by
  intro v' w' h hg
  have hO : OwnV e w' base v' (xs ++ news) := by
   unfold OwnV; rw [List.length_append, hn, hm]; exact h
  obtain ⟨A', c', e1, _⟩ := hO.slice
  rw [List.length_append, hn, hm] at e1
  refine ⟨A', c', e1, by rw [← e1]; exact hO, ?_⟩
  exact (Below.refl base w).grown hg hbase (fun k hk => (hown.lt k hk).1)
 rcases X with _ | ad
 ·
  have hm0 : m = 0 := by
   rcases Nat.eq_zero_or_pos m with h0 | h0
   · exact h0
   ·
    obtain ⟨b, o, h, _⟩ := hR.2 h0
    cases h
  subst hm0
  have hnews : news = [] := List.eq_nil_of_length_eq_zero hm
  subst hnews
  refine ⟨A, c, w, run_append_src_none w base t ty e i ht hi _ n xs hown' xc, ?_, Below.refl _ _, World.grownBy.refl _ _⟩
  simpa using hown
 ·
  have hcells : ∀ j u, news[j]? = some u → w.cell? (ad.add j) = some u := by
   intro j u hu
   have hp : 0 < news.length := by have := (List.getElem?_eq_some_iff.1 hu).1; omega
   obtain ⟨ad', h, hc⟩ := hR.pos hp
   injection h with h
   subst h
   exact hc j u hu
  obtain ⟨v', w', hrun, h3, h4, _⟩ := run_append_own (P := P) w base t ty e i z 1 by_ ht hi hz0 hz1 hz2 hz (by omega) _ n xs hown' ad m xc news (by omega) hcells h1 h63 hb hbase
  obtain ⟨A', c', rfl, hO, hB⟩ := hfin v' w' h3 h4
  exact ⟨A', c', w', hrun, hO, hB, h4⟩
theorem wpList_append_v {P : Program} {w : World} {ops : Array Oper} {rest : List Oper} {o : Oper} {a : Act} {Q : Exit → Act → World → Prop} (hgd : o.guard = none) (s x : Operand) (t : TypeId)
  (ho : o.op = .call { callee := .builtin .append, args := #[s, x], argTypes := #[t, t] }) (base : Nat) (e : TypeId) (z : Value) (by_ : Nat) (ht : P.underlying t = some (.slice e)) (h2 : (P.info? e).map (fun i => (i.zero, i.size, i.bytes)) = some (some z, 1, by_)) (hz : z.cells.size = 1)
  (A : Option Addr) (n c : Nat) (xs : List Value) (hn : xs.length = n) (hs : a.eval s = .slice A n c) (hown : OwnV e w base (.slice A n c) xs)
  (B : Nat) (X : Option Addr) (m xc : Nat) (news : List Value) (hx : a.eval x = .slice X m xc) (hR : RdV w B X m news) (h1 : ∀ u ∈ news, u.oneCell' = true) (hb : (n + m) * by_ ≤ 140737488355328) (h63 : n + m ≤ maxLen) (hbase : base ≤ w.heap.size)
  (h : ∀ A' c' w', OwnV e w' base (.slice A' (n + m) c') (xs ++ news) → Below base w w' → w.grownBy w' (Value.ownBlock (.slice A n c)) → wpList P ops Q rest (a.put o.dst (.slice A' (n + m) c')) w') : wpList P ops Q (o :: rest) a w := by
 refine wpList_plain hgd fun K hK => ?_
 obtain ⟨A', c', w', hrun, h3, h4, h5⟩ := run_append_v (P := P) w base t o.type e z by_ ht h2 hz A n c xs hn hown B X m xc news hR h1 hb h63 hbase
 unfold Oper.wp execOp
 simp only [ho, resolve, invoke, builtin, Sem.run_bind, Sem.run_pure, Result.andThen_ok, List.map_toArray, List.map_cons, List.map_nil, hs, hx, hrun]
 exact hK _ _ (h A' c' w' h3 h4 h5)
def Sl (w : World) (B : Nat) (x : Value) (l : List Int) : Prop := ∃ A c, x = .slice A l.length c ∧ l.length ≤ c ∧ c ≤ maxLen ∧ Rd w B A l.length l
theorem Sl.below {w w' : World} {B : Nat} {x : Value} {l : List Int} (h : Sl w B x l) (hb : Below B w w') : Sl w' B x l := by
 obtain ⟨A, c, e, h1, h2, hR⟩ := h
 exact ⟨A, c, e, h1, h2, hR.below hb⟩
theorem Sl.more {w : World} {B B' : Nat} {x : Value} {l : List Int} (h : Sl w B x l) (hB : B ≤ B') : Sl w B' x l := by
 obtain ⟨A, c, e, h1, h2, hR⟩ := h
 exact ⟨A, c, e, h1, h2, hR.more hB⟩
def RdS (w : World) (B : Nat) (A : Option Addr) (n : Nat) (L : List (List Int)) : Prop :=
 ∃ xs : List Value, RdV w B A n xs ∧ L.length = n ∧ ∀ (j : Nat) (x : Value) (l : List Int), xs[j]? = some x → L[j]? = some l → Sl w B x l
section
variable {w w' : World} {B B' n : Nat} {A : Option Addr} {L : List (List Int)}
theorem RdS.len (h : RdS w B A n L) : L.length = n := by obtain ⟨_, _, h, _⟩ := h; exact h
theorem RdS.below (h : RdS w B A n L) (hb : Below B w w') : RdS w' B A n L := by
 obtain ⟨xs, h1, h2, h3⟩ := h
 exact ⟨xs, h1.below hb, h2, fun j x l hx hl => (h3 j x l hx hl).below hb⟩
theorem RdS.more (h : RdS w B A n L) (hB : B ≤ B') : RdS w B' A n L := by
 obtain ⟨xs, h1, h2, h3⟩ := h
 exact ⟨xs, h1.more hB, h2, fun j x l hx hl => (h3 j x l hx hl).more hB⟩
theorem RdS.on (h : RdS w B A n L) (hb : Below B w w') (hB : B ≤ B') : RdS w' B' A n L := (h.below hb).more hB
theorem RdS.at_ (h : RdS w B A n L) {j : Nat} (hj : j < n) : ∃ b o Aj cj l, A = some ⟨b, o, none⟩ ∧ L[j]? = some l ∧ w.cell? ⟨b, o + j, none⟩ = some (.slice Aj l.length cj) ∧ l.length ≤ cj ∧ cj ≤ maxLen ∧ Rd w B Aj l.length l := by
 obtain ⟨xs, h1, h2, h3⟩ := h
 obtain ⟨b, o, u, e, hu, hc⟩ := h1.at_ hj
 have hl : L[j]? = some L[j] := List.getElem?_eq_getElem (by omega)
 obtain ⟨Aj, cj, rfl, g1, g2, hR⟩ := h3 j u _ hu hl
 exact ⟨b, o, Aj, cj, L[j], e, hl, hc, g1, g2, hR⟩
theorem RdS.nil (w : World) (B : Nat) (A : Option Addr) : RdS w B A 0 [] := ⟨[], RdV.nil w B A, rfl, fun j x l hx => by simp at hx⟩
end
def AllB (L : List (List Int)) : Prop := ∀ l ∈ L, Byt l ∧ l.length ≤ 1099511627776
theorem AllB.take {L : List (List Int)} (h : AllB L) (j : Nat) : AllB (L.take j) := fun l hl => h l (List.mem_of_mem_take hl)
end Go.Proofs.YtegnfkbmlalkeaaGreat.kit
namespace Go.Proofs.YtegnfkbmlalkeaaGreat.kit
open Go Go.RowKit nums
def At (w : World) (b o : Nat) (l : List Value) : Prop := ∀ j u, l[j]? = some u → w.cell? ⟨b, o + j, none⟩ = some u
section
variable {w w' : World} {B B' : Nat}
theorem At.below {b o : Nat} {l : List Value} (h : At w b o l) (hlt : b < B) (hb : Below B w w') : At w' b o l := fun j u hu => (hb.cell (p := ⟨b, o + j, none⟩) hlt).trans (h j u hu)
theorem At.cells {b o : Nat} {l : List Value} (h : At w b o l) (j : Nat) (u : Value) (hu : l[j]? = some u) : w.cell? ⟨b, o + j, none⟩ = some u := h j u hu
end
theorem flat_get {α : Type} (f : α → List Value) (k : Nat) (hf : ∀ x, (f x).length = k) : ∀ (l : List α) (j i : Nat) (x : α), l[j]? = some x → i < k → (l.flatMap f)[j * k + i]? = (f x)[i]?
 | [], j, i, x, h, _ => by cases h
 | y :: l, 0, i, x, h, hi => by
  obtain rfl := Option.some.inj h
  rw [List.flatMap_cons, Nat.zero_mul, Nat.zero_add, List.getElem?_append_left (by rw [hf]; exact hi)]
 | y :: l, j + 1, i, x, h, hi => by
  rw [List.flatMap_cons, List.getElem?_append_right (by rw [hf, Nat.succ_mul]; omega), hf, show (j + 1) * k + i - k = j * k + i by rw [Nat.succ_mul]; omega]
  exact flat_get f k hf l j i x h hi
theorem flat_length {α : Type} (f : α → List Value) (k : Nat) (hf : ∀ x, (f x).length = k) : ∀ l : List α, (l.flatMap f).length = l.length * k
 | [] => by simp
 | y :: l => by rw [List.flatMap_cons, List.length_append, hf, flat_length f k hf l, List.length_cons, Nat.succ_mul]; omega
def RdK (w : World) (B : Nat) (A : Option Addr) (m k : Nat) (l : List Value) : Prop := l.length = m * k ∧ (0 < m → ∃ b o, A = some ⟨b, o, none⟩ ∧ b < B ∧ At w b o l)
theorem run_append_src_none_k {P : Program} (w : World) (base : Nat) (t ty e : TypeId) (i : TypeInfo) (k : Nat) (ht : P.underlying t = some (.slice e)) (hi : P.info? e = some i)
  (v : Value) (n : Nat) (xs : List Value) (hown : w.ownsRow base e k v n xs) (c : Nat) :
  (Builtin.append_ #[t, t] ty #[v, .slice none 0 c]).run P w = .ok v w := by
 rcases hown.2 with ⟨rfl, rfl⟩ | ⟨g, cap, cur, rfl, _, _, hnc, _⟩
 · simp [Builtin.append_, run_underlying ht, sizeOf, typeInfo, hi, Builtin.lenOf, Builtin.firstCells]
 · simp [Builtin.append_, run_underlying ht, sizeOf, typeInfo, hi, Builtin.lenOf, Builtin.firstCells, hnc, storeCells]
theorem run_append_k {P : Program} (w : World) (base : Nat) (t ty e : TypeId) (z : Value) (k by_ : Nat) (ht : P.underlying t = some (.slice e)) (h2 : (P.info? e).map (fun i => (i.zero, i.size, i.bytes)) = some (some z, k, by_)) (hz : z.cells.size = k) (hk : 0 < k)
  (A : Option Addr) (n c : Nat) (xs : List Value) (hown : w.ownsRow base e k (.slice A n c) n xs)
  (B : Nat) (X : Option Addr) (m xc : Nat) (news : List Value) (hR : RdK w B X m k news) (h1 : ∀ u ∈ news, u.oneCell' = true) (hb : (n + m) * by_ ≤ 140737488355328) (h63 : n + m ≤ maxLen) (hbase : base ≤ w.heap.size) :
  ∃ A' c' w', (Builtin.append_ #[t, t] ty #[.slice A n c, .slice X m xc]).run P w = .ok (.slice A' (n + m) c') w' ∧ w'.ownsRow base e k (.slice A' (n + m) c') (n + m) (xs ++ news) ∧ Below base w w' ∧ w.grownBy w' (Value.ownBlock (.slice A n c)) := by
 obtain ⟨i, hi, hz0, hz1, hz2⟩ := info_parts h2
 have hm : news.length = m * k := hR.1
 have hfin : ∀ (v' : Value) (w' : World), w'.ownsRow base e k v' (n + m) (xs ++ news) → w.grownBy w' (Value.ownBlock (.slice A n c)) → ∃ A' c', v' = .slice A' (n + m) c' ∧ w'.ownsRow base e k (.slice A' (n + m) c') (n + m) (xs ++ news) ∧ Below base w w' := by
  intro v' w' h hg
  have hB : Below base w w' := (Below.refl base w).grown hg hbase (fun q hq => (hown.lt q hq).1)
  rcases h.2 with ⟨hv, hn⟩ | ⟨g, cap, cur, hv, _⟩
  · exact ⟨none, 0, by rw [hv, hn], by rw [hn] at h ⊢; rw [hv] at h; exact h, hB⟩
  · exact ⟨_, cap, hv, by rw [← hv]; exact h, hB⟩
 rcases X with _ | ad
 ·
  have hm0 : m = 0 := by
   rcases Nat.eq_zero_or_pos m with h0 | h0
   · exact h0
   ·
    obtain ⟨b, o, h, _⟩ := hR.2 h0
    cases h
  subst hm0
  have hnews : news = [] := List.eq_nil_of_length_eq_zero (by rw [hm]; omega)
  subst hnews
  refine ⟨A, c, w, run_append_src_none_k w base t ty e i k ht hi _ n xs hown xc, ?_, Below.refl _ _, World.grownBy.refl _ _⟩
  simpa using hown
 ·
  rcases Nat.eq_zero_or_pos m with h0 | h0
  ·
   subst h0
   have hnews : news = [] := List.eq_nil_of_length_eq_zero (by rw [hm]; omega)
   subst hnews
   obtain ⟨v', w', hrun, h3, h4, _⟩ := run_append_own (P := P) w base t ty e i z k by_ ht hi hz0 hz1 hz2 hz hk _ n xs hown ad 0 xc [] (by simp) (fun j u h => by cases h) (fun u h => by cases h) h63 hb hbase
   obtain ⟨A', c', rfl, hO, hB⟩ := hfin v' w' h3 h4
   exact ⟨A', c', w', hrun, hO, hB, h4⟩
  ·
   obtain ⟨b, o, e0, _, hA⟩ := hR.2 h0
   injection e0 with e0
   subst e0
   have hcells : ∀ j u, news[j]? = some u → w.cell? ((⟨b, o, none⟩ : Addr).add j) = some u := fun j u hu => by
    rw [Addr.add_lit]
    exact hA j u hu
   obtain ⟨v', w', hrun, h3, h4, _⟩ := run_append_own (P := P) w base t ty e i z k by_ ht hi hz0 hz1 hz2 hz hk _ n xs hown ⟨b, o, none⟩ m xc news hm hcells h1 h63 hb hbase
   obtain ⟨A', c', rfl, hO, hB⟩ := hfin v' w' h3 h4
   exact ⟨A', c', w', hrun, hO, hB, h4⟩
theorem wpList_append_k {P : Program} {w : World} {ops : Array Oper} {rest : List Oper} {o : Oper} {a : Act} {Q : Exit → Act → World → Prop} (hgd : o.guard = none) (s x : Operand) (t : TypeId)
  (ho : o.op = .call { callee := .builtin .append, args := #[s, x], argTypes := #[t, t] }) (base : Nat) (e : TypeId) (z : Value) (k by_ : Nat) (ht : P.underlying t = some (.slice e)) (h2 : (P.info? e).map (fun i => (i.zero, i.size, i.bytes)) = some (some z, k, by_)) (hz : z.cells.size = k) (hk : 0 < k)
  (A : Option Addr) (n c : Nat) (xs : List Value) (hs : a.eval s = .slice A n c) (hown : w.ownsRow base e k (.slice A n c) n xs)
  (B : Nat) (X : Option Addr) (m xc : Nat) (news : List Value) (hx : a.eval x = .slice X m xc) (hR : RdK w B X m k news) (h1 : ∀ u ∈ news, u.oneCell' = true) (hb : (n + m) * by_ ≤ 140737488355328) (h63 : n + m ≤ maxLen) (hbase : base ≤ w.heap.size)
  (h : ∀ A' c' w', w'.ownsRow base e k (.slice A' (n + m) c') (n + m) (xs ++ news) → Below base w w' → w.grownBy w' (Value.ownBlock (.slice A n c)) → wpList P ops Q rest (a.put o.dst (.slice A' (n + m) c')) w') : wpList P ops Q (o :: rest) a w := by
 refine wpList_plain hgd fun K hK => ?_
 obtain ⟨A', c', w', hrun, h3, h4, h5⟩ := run_append_k (P := P) w base t o.type e z k by_ ht h2 hz hk A n c xs hown B X m xc news hR h1 hb h63 hbase
 unfold Oper.wp execOp
 simp only [ho, resolve, invoke, builtin, Sem.run_bind, Sem.run_pure, Result.andThen_ok, List.map_toArray, List.map_cons, List.map_nil, hs, hx, hrun]
 exact hK _ _ (h A' c' w' h3 h4 h5)
section
variable {P : Program} {w : World} {ops : Array Oper} {o : Oper} {a : Act} {K : Act → World → Prop} {Q : Exit → Act → World → Prop} {E : Prop}
theorem step_appR (hgd : o.guard = none) (s x : Operand) (t : TypeId) (ho : o.op = .call { callee := .builtin .append, args := #[s, x], argTypes := #[t, t] }) (V X : Value) (hs : a.eval s = V) (hx : a.eval x = X) (R : Value → World → Prop)
  (hrun : ∃ v w', (Builtin.append_ #[t, t] o.type #[V, X]).run P w = .ok v w' ∧ R v w') (hK : ∀ v w', R v w' → K (a.put o.dst v) w') :
  if Region.wanted o (yielded ops a.tmps) = true then Oper.wp P o a w K Q else E := by
 have hw : Region.wanted o (yielded ops a.tmps) = true := by simp [Region.wanted, hgd]
 rw [if_pos hw]
 obtain ⟨v, w', hr, hR⟩ := hrun
 subst hs hx
 unfold Oper.wp execOp
 simp only [ho, resolve, invoke, builtin, Sem.run_bind, Sem.run_pure, Result.andThen_ok, List.map_toArray, List.map_cons, List.map_nil, hr]
 exact hK _ _ hR
end
section
variable {w w' : World}
theorem lt_of_block {g : Nat} {o : Obj} (h : w.heap[g]? = some o) : g < w.heap.size := (Array.getElem?_eq_some_iff.1 h).1
theorem At.same {b o : Nat} {l : List Value} (h : At w b o l) (hb : w'.heap[b]? = w.heap[b]?) : At w' b o l := fun j u hu => (World.cell?_of_block (a := ⟨b, o + j, none⟩) hb).trans (h j u hu)
end
theorem at_new (w : World) (E : TypeId) (l : List Value) : At (w.alloc (.cells l.toArray E)) w.heap.size 0 l := fun q u hu => by
 have k : Blk E (w.alloc (.cells l.toArray E)) w.heap.size l := heap_alloc_new w _
 rw [Nat.zero_add, k.cell q]
 exact hu
end Go.Proofs.YtegnfkbmlalkeaaGreat.kit
namespace Go.Proofs.YtegnfkbmlalkeaaGreat.kit
open Go.RowKit
def OwnsOf (E : TypeId) (w : World) (base : Nat) (xs : List Value) (L : List (List Int)) : Prop :=
 (∀ (j : Nat) (x : Value) (l : List Int), xs[j]? = some x → L[j]? = some l → Own E w base x l) ∧
 (∀ (i j : Nat) (x y : Value) (k : Nat), i ≠ j → xs[i]? = some x → xs[j]? = some y → x.ownBlock = some k → y.ownBlock ≠ some k)
section
variable {E : TypeId} {w w' : World} {base base' : Nat} {xs : List Value} {L : List (List Int)}
theorem OwnsOf.nil (E : TypeId) (w : World) (base : Nat) : OwnsOf E w base [] [] := ⟨fun j x l h => by simp at h, fun i j x y k _ h => by simp at h⟩
theorem OwnsOf.below (h : OwnsOf E w base xs L) (hb : Below w.heap.size w w') : OwnsOf E w' base xs L := ⟨fun j x l hx hl => (h.1 j x l hx hl).below hb, h.2⟩
theorem OwnsOf.more (h : OwnsOf E w base xs L) (hB : base' ≤ base) : OwnsOf E w base' xs L := ⟨fun j x l hx hl => (h.1 j x l hx hl).more hB, h.2⟩
theorem Own.grown {k : Option Nat} {v : Value} {l : List Int} (h : Own E w base v l) (hG : w.grownBy w' k) (hne : ∀ g, v.ownBlock = some g → k ≠ some g) : Own E w' base v l := by
 refine ⟨h.1, ?_⟩
 rcases h.2 with hn | ⟨g, cap, cur, rfl, hb, hg, r⟩
 · exact .inl hn
 · exact .inr ⟨g, cap, cur, rfl, hb, by rw [hG.block g (Array.getElem?_eq_some_iff.1 hg).1 (fun e => hne g rfl e.symm)]; exact hg, r⟩
theorem own_apart {E' : TypeId} (hE : E ≠ E') {v u : Value} {l : List Int} {ys : List Value} {b2 g : Nat} (h : Own E w base v l) (hO : OwnV E' w b2 u ys) (hg : v.ownBlock = some g) : u.ownBlock ≠ some g := by
 intro hu
 rcases h.2 with ⟨hv, _⟩ | ⟨g1, cap, cur, hv, _, hh, _⟩
 · rw [hv] at hg; simp [Value.ownBlock] at hg
 ·
  rcases hO.2 with ⟨hv2, _⟩ | ⟨g2, cap2, cur2, hv2, _, hh2, _⟩
  · rw [hv2] at hu; simp [Value.ownBlock] at hu
  ·
   rw [hv] at hg
   rw [hv2] at hu
   have e1 : g1 = g := by simpa [Value.ownBlock] using hg
   have e2 : g2 = g := by simpa [Value.ownBlock] using hu
   subst e1
   subst e2
   rw [hh] at hh2
   simp only [Option.some.injEq, Obj.cells.injEq] at hh2
   exact hE hh2.2.1
theorem OwnsOf.grown {E' : TypeId} (hE : E ≠ E') {v : Value} {ys : List Value} {b2 : Nat} (h : OwnsOf E w base xs L) (hO : OwnV E' w b2 v ys) (hG : w.grownBy w' v.ownBlock) : OwnsOf E w' base xs L :=
 ⟨fun j x l hx hl => (h.1 j x l hx hl).grown hG (fun g hg => own_apart hE (h.1 j x l hx hl) hO hg), h.2⟩
end
theorem Own.rd {E : TypeId} {w : World} {base n : Nat} {A : Option Addr} {c : Nat} {l : List Int} (h : Own E w base (.slice A n c) l) (hn : l.length = n) : Rd w w.heap.size A n l := by
 obtain ⟨A', c', hv, h1, h2, hR⟩ := h.slice
 simp only [Value.slice.injEq] at hv
 obtain ⟨rfl, -, rfl⟩ := hv
 rwa [hn] at hR
theorem Sl.rd {w : World} {B n c : Nat} {A : Option Addr} {l : List Int} (h : Sl w B (.slice A n c) l) (hn : l.length = n) : Rd w B A n l := by
 obtain ⟨A', c', hv, h1, h2, hR⟩ := h
 simp only [Value.slice.injEq] at hv
 obtain ⟨rfl, -, rfl⟩ := hv
 rwa [hn] at hR
theorem OwnV.grown {E : TypeId} {w w' : World} {base : Nat} {k : Option Nat} {v : Value} {xs : List Value} (h : OwnV E w base v xs) (hG : w.grownBy w' k) (hne : ∀ g, v.ownBlock = some g → k ≠ some g) : OwnV E w' base v xs := by
 refine ⟨h.1, ?_⟩
 rcases h.2 with hn | ⟨g, cap, cur, rfl, hb, hg, r⟩
 · exact .inl hn
 · exact .inr ⟨g, cap, cur, rfl, hb, by rw [hG.block g (Array.getElem?_eq_some_iff.1 hg).1 (fun e => hne g rfl e.symm)]; exact hg, r⟩
theorem Own.form {E : TypeId} {w : World} {base n c : Nat} {A : Option Addr} {l : List Int} (h : Own E w base (.slice A n c) l) (hn : 0 < n) : ∃ g, A = some ⟨g, 0, none⟩ ∧ base ≤ g := by
 rcases h.2 with ⟨hv, hz⟩ | ⟨g, cap, cur, hv, hb, _⟩
 · simp only [Value.slice.injEq] at hv; omega
 · simp only [Value.slice.injEq] at hv; exact ⟨g, hv.1, hb⟩
theorem Own.cell {E : TypeId} {w : World} {base n c g : Nat} {l : List Int} (h : Own E w base (.slice (some ⟨g, 0, none⟩) n c) l) (hn : l.length = n) (j : Nat) (hj : j < n) : w.cell? ⟨g, j, none⟩ = some (.int .u8 (l.getD j 0)) ∧ w.frozen? ⟨g, j, none⟩ = false := by
 have h0 : w.ownsRow base E 1 (.slice (some ⟨g, 0, none⟩) n c) n (u8s l) := by have := h; unfold Own at this; rwa [hn] at this
 exact ⟨by rw [World.ownsRow.cellAt h0 j (by omega), u8s_getElem? l j (by omega)], World.ownsRow.frozenAt h0 j⟩
theorem Own.lit (w : World) (E : TypeId) {base n : Nat} (l : List Int) (hn : l.length = n) (hb : base ≤ w.heap.size) (hm : n ≤ 140737488355328) : Own E (w.alloc (.cells (u8s l).toArray E)) base (.slice (some ⟨w.heap.size, 0, none⟩) n n) l :=
 own_of_block (cs := u8s l) hb (heap_alloc_new w _) hn (Nat.le_refl _) hm (by rw [u8s_length, hn]) (by rw [← hn, ← u8s_length]; exact List.take_length)
end Go.Proofs.YtegnfkbmlalkeaaGreat.kit
namespace Go.Proofs.YtegnfkbmlalkeaaGreat.kit
open Go.RowKit
theorem Rd.sliced {w : World} {B n : Nat} {A : Option Addr} {l : List Int} (h : Rd w B A n l) {p q m : Nat} (hp : p ≤ q) (hq : q ≤ n) (hm : q ≤ m) :
  ∃ A', Go.sliced A p q m 1 = .slice A' (q - p) (m - p) ∧ Rd w B A' (q - p) ((l.drop p).take (q - p)) := by
 refine ⟨_, rfl, ?_⟩
 by_cases h0 : q - p = 0
 · rw [h0, List.take_zero]; exact Rd.nil _ _ _
 ·
  obtain ⟨b, o, rfl, _, _⟩ := h.2 (by omega)
  rw [if_neg (by omega)]
  have := h.cut hp hq
  by_cases hp0 : p = 0
  ·
   subst hp0
   simpa [Addr.add] using this
  · simpa [Addr.add, hp0] using this
theorem elem_of {P : Program} {t e : TypeId} (h : P.underlying t = some (.slice e)) : P.elem t = e := by
 unfold Program.elem; rw [h]
end Go.Proofs.YtegnfkbmlalkeaaGreat.kit
namespace Go.Proofs.YtegnfkbmlalkeaaGreat.se
open Go.RowKit nums
theorem bv_nat16 (n : Nat) (h : n < 65536) : (BitVec.ofInt 16 (n : Int)).toNat = n := by
 rw [BitVec.ofInt_natCast, BitVec.toNat_ofNat]; exact Nat.mod_eq_of_lt h
theorem wrap_u16_nat (n : Nat) (h : n < 65536) : IntKind.u16.wrap (n : Int) = n := by
 simp [IntKind.wrap, IntKind.bits, IntKind.signed]; omega
theorem bits_and_u16_nat (a b : Nat) (ha : a < 65536) (hb : b < 65536) : bits .and .u16 (a : Int) (b : Int) = ((a &&& b : Nat) : Int) := by
 show IntKind.u16.wrap ((BitVec.ofInt 16 (a : Int) &&& BitVec.ofInt 16 (b : Int)).toNat : Int) = _
 rw [BitVec.toNat_and, bv_nat16 a ha, bv_nat16 b hb, wrap_u16_nat _ (Nat.lt_of_le_of_lt Nat.and_le_left ha)]
theorem bits_or_u16_nat (a b : Nat) (ha : a < 65536) (hb : b < 65536) : bits .or .u16 (a : Int) (b : Int) = ((a ||| b : Nat) : Int) := by
 show IntKind.u16.wrap ((BitVec.ofInt 16 (a : Int) ||| BitVec.ofInt 16 (b : Int)).toNat : Int) = _
 rw [BitVec.toNat_or, bv_nat16 a ha, bv_nat16 b hb, wrap_u16_nat _ (Nat.or_lt_two_pow (n := 16) ha hb)]
def nodeB (n : Int) : Bool := decide (1 ≤ n) && decide (n ≤ 9)
theorem nodeB_nat {n : Int} (h : nodeB n = true) : ∃ k : Nat, n = (k : Int) ∧ 1 ≤ k ∧ k ≤ 9 := by
 simp only [nodeB, Bool.and_eq_true, decide_eq_true_eq] at h
 exact ⟨n.toNat, by omega, by omega, by omega⟩
theorem nodeB_not {n : Int} (h : nodeB n = false) : n < 1 ∨ 9 < n := by
 by_cases h1 : 1 ≤ n
 ·
  by_cases h2 : n ≤ 9
  · simp [nodeB, h1, h2] at h
  · omega
 · omega
theorem nodeB_of (k : Nat) (h1 : 1 ≤ k) (h9 : k ≤ 9) : nodeB (k : Int) = true := by
 simp [nodeB]; omega
def bitF (n : Int) : Nat := if nodeB n then 2 ^ n.toNat else 0
theorem bitF_node {k : Nat} (h1 : 1 ≤ k) (h9 : k ≤ 9) : bitF (k : Int) = 2 ^ k := by simp [bitF, nodeB_of k h1 h9]
theorem bitF_not {n : Int} (h : nodeB n = false) : bitF n = 0 := by simp [bitF, h]
theorem pow_le9 {k : Nat} (h9 : k ≤ 9) : 2 ^ k ≤ 512 := Nat.pow_le_pow_right (n := 2) (by omega) h9
theorem bitF_le (n : Int) : bitF n ≤ 512 := by
 cases h : nodeB n
 · rw [bitF_not h]; omega
 ·
  obtain ⟨k, rfl, h1, h9⟩ := nodeB_nat h
  rw [bitF_node h1 h9]; exact pow_le9 h9
theorem bitF_pos {n : Int} : 0 < bitF n ↔ nodeB n = true := by
 cases h : nodeB n
 · simp [bitF_not h]
 ·
  obtain ⟨k, rfl, h1, h9⟩ := nodeB_nat h
  rw [bitF_node h1 h9]; simp [Nat.two_pow_pos]
def hasF (s : Nat) (n : Int) : Bool := nodeB n && s.testBit n.toNat
theorem hasF_node {s k : Nat} (h1 : 1 ≤ k) (h9 : k ≤ 9) : hasF s (k : Int) = s.testBit k := by simp [hasF, nodeB_of k h1 h9]
theorem hasF_not {s : Nat} {n : Int} (h : nodeB n = false) : hasF s n = false := by simp [hasF, h]
theorem hasF_div {s : Nat} {n : Int} (h : nodeB n = true) : hasF s n = decide (s / bitF n % 2 = 1) := by
 obtain ⟨k, rfl, h1, h9⟩ := nodeB_nat h
 rw [hasF_node h1 h9, bitF_node h1 h9, Nat.testBit_eq_decide_div_mod_eq]
theorem mod_succ (s k : Nat) : s % 2 ^ (k + 1) = s % 2 ^ k + 2 ^ k * (s.testBit k).toNat := by rw [Nat.mod_pow_succ, Nat.toNat_testBit]
theorem add_bit {s k : Nat} (h : s.testBit k = false) : s + 2 ^ k = s ||| 2 ^ k := by
 apply Nat.eq_of_testBit_eq
 intro i
 rw [Nat.testBit_or, Nat.testBit_two_pow]
 have hs : s = 2 ^ (k + 1) * (s / 2 ^ (k + 1)) + s % 2 ^ k := by
  have e := Nat.div_add_mod s (2 ^ (k + 1))
  rw [mod_succ, h] at e
  simpa using e.symm
 have hl : s % 2 ^ k < 2 ^ k := Nat.mod_lt _ (Nat.two_pow_pos k)
 have hl1 : s % 2 ^ k < 2 ^ (k + 1) := by rw [Nat.pow_succ]; omega
 have hl2 : s % 2 ^ k + 2 ^ k < 2 ^ (k + 1) := by rw [Nat.pow_succ]; omega
 generalize s / 2 ^ (k + 1) = a at *
 generalize s % 2 ^ k = c at *
 subst hs
 rw [Nat.add_assoc, Nat.testBit_two_pow_mul_add _ hl2, Nat.testBit_two_pow_mul_add _ hl1]
 by_cases hi : i < k + 1
 ·
  rw [if_pos hi, if_pos hi, Nat.add_comm c]
  by_cases he : k = i
  ·
   subst he
   rw [Nat.testBit_two_pow_add_eq]
   rw [Nat.testBit_lt_two_pow hl]; simp
  · rw [Nat.testBit_two_pow_add_gt (by omega)]; simp [he]
 ·
  rw [if_neg hi, if_neg hi]
  have : k ≠ i := by omega
  simp [this]
def withF (s : Nat) (n : Int) : Nat := s ||| bitF n
def lessF (s : Nat) (n : Int) : Nat := if hasF s n then s - bitF n else s
theorem withF_has {s : Nat} {n : Int} (h : hasF s n = true) : withF s n = s := by
 have hn : nodeB n = true := by cases hn : nodeB n with | true => rfl | false => simp [hasF, hn] at h
 obtain ⟨k, rfl, h1, h9⟩ := nodeB_nat hn
 rw [hasF_node h1 h9] at h
 rw [withF, bitF_node h1 h9]
 apply Nat.eq_of_testBit_eq
 intro i
 rw [Nat.testBit_or, Nat.testBit_two_pow]
 by_cases he : k = i
 · subst he; simp [h]
 · simp [he]
theorem withF_add {s : Nat} {n : Int} (h : hasF s n = false) : withF s n = s + bitF n := by
 cases hn : nodeB n
 · rw [withF, bitF_not hn]; simp
 ·
  obtain ⟨k, rfl, h1, h9⟩ := nodeB_nat hn
  rw [hasF_node h1 h9] at h
  rw [withF, bitF_node h1 h9, add_bit h]
theorem withF_lt {s : Nat} (n : Int) (hs : s < 65536) : withF s n < 65536 :=
 Nat.or_lt_two_pow (n := 16) hs (Nat.lt_of_le_of_lt (bitF_le n) (by omega))
theorem bit_le {s k : Nat} (h : s.testBit k = true) : 2 ^ k ≤ s := Nat.ge_two_pow_of_testBit h
theorem has_node {s : Nat} {n : Int} (h : hasF s n = true) : nodeB n = true := by
 cases hn : nodeB n with | true => rfl | false => simp [hasF, hn] at h
theorem bitF_le_has {s : Nat} {n : Int} (h : hasF s n = true) : bitF n ≤ s := by
 obtain ⟨k, rfl, h1, h9⟩ := nodeB_nat (has_node h)
 rw [hasF_node h1 h9] at h
 rw [bitF_node h1 h9]; exact bit_le h
theorem lessF_le (s : Nat) (n : Int) : lessF s n ≤ s := by unfold lessF; split <;> omega
theorem less_bit {s k : Nat} (h : s.testBit k = true) (i : Nat) : (s - 2 ^ k).testBit i = (s.testBit i && decide (i ≠ k)) := by
 have hk := bit_le h
 have e : (s - 2 ^ k) + 2 ^ k = s := by omega
 have hb : (s - 2 ^ k).testBit k = false := by
  have h2 := Nat.testBit_two_pow_add_eq (s - 2 ^ k) k
  rw [Nat.add_comm, e, h] at h2
  revert h2
  cases (s - 2 ^ k).testBit k <;> simp
 have e2 := add_bit hb
 rw [e] at e2
 by_cases he : i = k
 · subst he; simp [hb]
 ·
  rw [e2, Nat.testBit_or, Nat.testBit_two_pow]
  have : k ≠ i := fun x => he x.symm
  rw [← e2]; simp [he, this]
def listTo (s : Nat) : Nat → List Int
 | 0 => []
 | k + 1 => if s.testBit (k + 1) then listTo s k ++ [((k + 1 : Nat) : Int)] else listTo s k
def listF (s : Nat) : List Int := listTo s 9
theorem listTo_le (s k : Nat) : (listTo s k).length ≤ k := by
 induction k with
 | zero => simp [listTo]
 | succ k ih =>
  simp only [listTo]
  split
  · rw [List.length_append]; simp; exact ih
  · omega
theorem listTo_mem {s k : Nat} {n : Int} (h : n ∈ listTo s k) (hk : k ≤ 9) : ∃ j : Nat, n = (j : Int) ∧ 1 ≤ j ∧ j ≤ k ∧ s.testBit j = true := by
 induction k with
 | zero => simp [listTo] at h
 | succ k ih =>
  simp only [listTo] at h
  by_cases hb : s.testBit (k + 1) = true
  ·
   rw [if_pos hb] at h
   rcases List.mem_append.1 h with h | h
   · obtain ⟨j, e, h1, h2, h3⟩ := ih h (by omega); exact ⟨j, e, h1, by omega, h3⟩
   · simp at h; exact ⟨k + 1, by omega, by omega, by omega, hb⟩
  ·
   rw [if_neg hb] at h
   obtain ⟨j, e, h1, h2, h3⟩ := ih h (by omega); exact ⟨j, e, h1, by omega, h3⟩
def mayF (s : Nat) : Bool := decide (s % 1024 - s % 2 = s)
theorem and_1022 (s : Nat) : s &&& 1022 = s % 1024 - s % 2 := by
 have h1 : s % 1024 - s % 2 = 2 * (s / 2 % 512) := by omega
 rw [h1]
 apply Nat.eq_of_testBit_eq
 intro i
 cases i with
 | zero => simp
 | succ i =>
  rw [Nat.testBit_and, Nat.testBit_succ, Nat.testBit_succ, Nat.testBit_succ, Nat.mul_div_cancel_left _ (by omega), show 1022 / 2 = 2 ^ 9 - 1 from rfl, Nat.testBit_two_pow_sub_one, show (512 : Nat) = 2 ^ 9 from rfl, Nat.testBit_mod_two_pow, Bool.and_comm]
def sumL (l : List Int) : Nat := (l.map bitF).sum
theorem sumL_snoc (l : List Int) (n : Int) : sumL (l ++ [n]) = sumL l + bitF n := by simp [sumL]
theorem sumL_to (s k : Nat) (hk : k ≤ 9) : sumL (listTo s k) + s % 2 = s % 2 ^ (k + 1) := by
 induction k with
 | zero => simp [listTo, sumL]
 | succ k ih =>
  have ih := ih (by omega)
  rw [mod_succ, ← ih]
  simp only [listTo]
  cases hb : s.testBit (k + 1)
  · simp
  · rw [if_pos rfl, sumL_snoc, bitF_node (by omega) hk]; simp; omega
theorem may_sum (s : Nat) : mayF s = decide (sumL (listF s) = s) := by
 have h := sumL_to s 9 (by omega)
 unfold mayF listF
 simp only [decide_eq_decide]
 have : (2 : Nat) ^ (9 + 1) = 1024 := rfl
 omega
def ofF : Nat → List Int → Option Nat
 | s, [] => some s
 | s, n :: l => if nodeB n then ofF (withF s n) l else none
theorem ofF_snoc (l : List Int) (n : Int) : ∀ s, ofF s (l ++ [n]) = (ofF s l).bind fun t => if nodeB n then some (withF t n) else none := by
 induction l with
 | nil => intro s; simp [ofF]
 | cons m l ih =>
  intro s
  simp only [List.cons_append, ofF]
  cases nodeB m
  · rfl
  · rw [if_pos rfl, if_pos rfl]; exact ih _
theorem ofF_to (s k : Nat) (hk : k ≤ 9) : ofF 0 (listTo s k) = some (s % 2 ^ (k + 1) - s % 2) := by
 induction k with
 | zero => simp [listTo, ofF]
 | succ k ih =>
  have ih := ih (by omega)
  have hS := sumL_to s k (by omega)
  have hS1 := sumL_to s (k + 1) hk
  simp only [listTo]
  simp only [listTo] at hS1
  cases hb : s.testBit (k + 1)
  ·
   rw [hb] at hS1
   rw [if_neg (by decide)]
   rw [ih]
   simp only [Bool.false_eq_true, if_false] at hS1
   congr 1; omega
  ·
   rw [hb, if_pos rfl, sumL_snoc] at hS1
   rw [if_pos rfl, ofF_snoc, ih]
   have hn : nodeB (((k + 1 : Nat)) : Int) = true := nodeB_of _ (by omega) hk
   have hlt : s % 2 ^ (k + 1) - s % 2 < 2 ^ (k + 1) := Nat.lt_of_le_of_lt (Nat.sub_le _ _) (Nat.mod_lt _ (Nat.two_pow_pos _))
   have hno : hasF (s % 2 ^ (k + 1) - s % 2) ((k + 1 : Nat) : Int) = false := by
    rw [hasF_node (by omega) hk]; exact Nat.testBit_lt_two_pow hlt
   simp only [Option.bind_some, hn, if_true]
   rw [withF_add hno]
   congr 1; omega
theorem ofF_list (s : Nat) : ofF 0 (listF s) = some (s &&& 1022) := by
 rw [and_1022]; exact ofF_to s 9 (by omega)
theorem may_of (s : Nat) : mayF s = decide (s &&& 1022 = s) := by rw [and_1022]; rfl
theorem list_and (s : Nat) : listF (s &&& 1022) = listF s := by
 have H : ∀ k, k ≤ 9 → listTo (s &&& 1022) k = listTo s k := by
  intro k
  induction k with
  | zero => intro _; rfl
  | succ k ih =>
   intro hk
   have hb : Nat.testBit 1022 (k + 1) = true := by
    have hk : k = 0 ∨ k = 1 ∨ k = 2 ∨ k = 3 ∨ k = 4 ∨ k = 5 ∨ k = 6 ∨ k = 7 ∨ k = 8 := by omega
    rcases hk with rfl | rfl | rfl | rfl | rfl | rfl | rfl | rfl | rfl <;> rfl
   simp only [listTo, ih (by omega), Nat.testBit_and, hb, Bool.and_true]
 exact H 9 (by omega)
end Go.Proofs.YtegnfkbmlalkeaaGreat.se
namespace Go.Proofs.YtegnfkbmlalkeaaGreat.se
open Go.RowKit nums
theorem andNot_bv (x y : BitVec 16) : x &&& ~~~y = x ^^^ (x &&& y) := by
 ext i hi
 simp only [BitVec.getElem_and, BitVec.getElem_not, BitVec.getElem_xor]
 cases x[i] <;> cases y[i] <;> rfl
theorem bits_andNot_u16_nat (a b : Nat) (ha : a < 65536) (hb : b < 65536) : bits .andNot .u16 (a : Int) (b : Int) = ((a ^^^ (a &&& b) : Nat) : Int) := by
 show IntKind.u16.wrap ((BitVec.ofInt 16 (a : Int) &&& ~~~BitVec.ofInt 16 (b : Int)).toNat : Int) = _
 rw [andNot_bv, BitVec.toNat_xor, BitVec.toNat_and, bv_nat16 a ha, bv_nat16 b hb, wrap_u16_nat _ (Nat.xor_lt_two_pow (n := 16) ha (Nat.lt_of_le_of_lt Nat.and_le_left ha))]
theorem and_bit (s : Nat) (n : Int) : s &&& bitF n = if hasF s n then bitF n else 0 := by
 cases hn : nodeB n
 · rw [bitF_not hn, hasF_not hn]; simp
 ·
  obtain ⟨k, rfl, h1, h9⟩ := nodeB_nat hn
  rw [bitF_node h1 h9, hasF_node h1 h9]
  apply Nat.eq_of_testBit_eq
  intro i
  rw [Nat.testBit_and, Nat.testBit_two_pow]
  by_cases he : k = i
  ·
   subst he
   cases h : s.testBit k <;> simp
  · cases h : s.testBit k <;> simp [he]
theorem and_bit_zero (s : Nat) (n : Int) : (s &&& bitF n = 0) ↔ hasF s n = false := by
 rw [and_bit]
 cases h : hasF s n
 · simp
 ·
  have := bitF_pos.2 (has_node h)
  simp; omega
theorem less_xor (s : Nat) (n : Int) : s ^^^ (s &&& bitF n) = lessF s n := by
 rw [and_bit]
 unfold lessF
 cases h : hasF s n
 · simp
 ·
  rw [if_pos rfl, if_pos rfl]
  obtain ⟨k, rfl, h1, h9⟩ := nodeB_nat (has_node h)
  rw [hasF_node h1 h9] at h
  rw [bitF_node h1 h9]
  apply Nat.eq_of_testBit_eq
  intro i
  rw [Nat.testBit_xor, less_bit h, Nat.testBit_two_pow]
  by_cases he : i = k
  · subst he; simp [h]
  · simp [he, show k ≠ i from fun e => he e.symm]
theorem may_xor (s : Nat) : (s ^^^ (s &&& 1022) = 0) ↔ mayF s = true := by
 rw [may_of, decide_eq_true_eq]
 constructor
 ·
  intro h
  have := congrArg (fun x => s ^^^ x) h
  simp only [Nat.xor_zero, ← Nat.xor_assoc, Nat.xor_self, Nat.zero_xor] at this
  exact this
 ·
  intro h
  rw [h, Nat.xor_self]
end Go.Proofs.YtegnfkbmlalkeaaGreat.se
namespace Go.Proofs.YtegnfkbmlalkeaaGreat.se
open Go.RowKit nums
def lowF (x k : Nat) : Nat := x % 2 ^ (k + 1) - x % 2
theorem lowF_zero (x : Nat) : lowF x 0 = 0 := by simp [lowF]
theorem lowF_lt (x k : Nat) : lowF x k < 2 ^ (k + 1) := Nat.lt_of_le_of_lt (Nat.sub_le _ _) (Nat.mod_lt _ (Nat.two_pow_pos _))
theorem lowF_succ (x k : Nat) (hk : k < 9) : lowF x (k + 1) = if x.testBit (k + 1) then withF (lowF x k) ((k + 1 : Nat) : Int) else lowF x k := by
 have hm : x % 2 ≤ x % 2 ^ (k + 1) := by
  have := sumL_to x k (by omega)
  omega
 have hno : hasF (lowF x k) ((k + 1 : Nat) : Int) = false := by
  rw [hasF_node (by omega) (by omega)]; exact Nat.testBit_lt_two_pow (lowF_lt x k)
 rw [withF_add hno, bitF_node (by omega) (by omega)]
 unfold lowF
 rw [mod_succ x (k + 1)]
 cases x.testBit (k + 1)
 · simp
 ·
  simp only [Bool.toNat_true, Nat.mul_one, if_true]
  omega
theorem lowF_all (x : Nat) : lowF x 9 = x &&& 1022 := (and_1022 x).symm
def cntTo (s : Nat) : Nat → Nat
 | 0 => 0
 | k + 1 => cntTo s k + (s.testBit (k + 1)).toNat
def cntF (s : Nat) : Nat := cntTo s 9
theorem cntTo_list (s k : Nat) : (listTo s k).length = cntTo s k := by
 induction k with
 | zero => rfl
 | succ k ih =>
  simp only [listTo, cntTo]
  cases s.testBit (k + 1) <;> simp [ih]
theorem cntF_list (s : Nat) : (listF s).length = cntF s := cntTo_list s 9
theorem cntTo_le (s k : Nat) : cntTo s k ≤ k := by rw [← cntTo_list]; exact listTo_le s k
theorem cntF_le (s : Nat) : cntF s ≤ 9 := cntTo_le s 9
theorem cnt_join (a b k : Nat) : cntTo (a ||| b) k + cntTo (a &&& b) k = cntTo a k + cntTo b k := by
 induction k with
 | zero => rfl
 | succ k ih =>
  simp only [cntTo, Nat.testBit_or, Nat.testBit_and]
  cases a.testBit (k + 1) <;> cases b.testBit (k + 1) <;> simp <;> omega
theorem cnt_zero (k : Nat) : cntTo 0 k = 0 := by
 induction k with
 | zero => rfl
 | succ k ih => simp [cntTo, ih]
end Go.Proofs.YtegnfkbmlalkeaaGreat.se
namespace Go.Proofs.YtegnfkbmlalkeaaGreat.cf
open Go.RowKit nums se
def In64 (z : Int) : Prop := -9223372036854775808 ≤ z ∧ z ≤ 9223372036854775807
structure CfL where
 v : Nat
 w : Nat
 l : Nat
 e : Int
 k : Int
deriving DecidableEq
structure JtL where
 a : CfL
 b : CfL
 two : Bool
deriving DecidableEq
def zeroC : CfL := ⟨0, 0, 0, 0, 0⟩
def zeroJ : JtL := ⟨zeroC, zeroC, false⟩
def CfL.ok (c : CfL) : Prop := c.v < 65536 ∧ c.w < 65536 ∧ c.l < 65536 ∧ In64 c.e ∧ In64 c.k
def JtL.ok (j : JtL) : Prop := j.a.ok ∧ j.b.ok
theorem zero_ok : zeroC.ok := by refine ⟨?_, ?_, ?_, ?_, ?_⟩ <;> simp [zeroC, In64]
def votF (c : CfL) : Nat := c.v ||| c.w
def datF (c : CfL) : Nat := c.v ||| c.l
def memF (c : CfL) : Nat := c.v ||| c.w ||| c.l
theorem vot_lt {c : CfL} (h : c.ok) : votF c < 65536 := Nat.or_lt_two_pow (n := 16) h.1 h.2.1
theorem dat_lt {c : CfL} (h : c.ok) : datF c < 65536 := Nat.or_lt_two_pow (n := 16) h.1 h.2.2.1
theorem mem_lt {c : CfL} (h : c.ok) : memF c < 65536 := Nat.or_lt_two_pow (n := 16) (vot_lt h) h.2.2.1
def joinF (a b : Nat) : Nat := (a ||| b) &&& 1022
def meetF (a b : Nat) : Nat := (a &&& b) &&& 1022
theorem join_lt {a b : Nat} (ha : a < 65536) (hb : b < 65536) : joinF a b < 65536 := Nat.lt_of_le_of_lt Nat.and_le_left (Nat.or_lt_two_pow (n := 16) ha hb)
theorem meet_lt {a b : Nat} (ha : a < 65536) : meetF a b < 65536 := Nat.lt_of_le_of_lt Nat.and_le_left (Nat.lt_of_le_of_lt Nat.and_le_left ha)
theorem may_iff {s : Nat} : mayF s = true ↔ s &&& 1022 = s := by rw [may_of]; exact decide_eq_true_iff
theorem may_or (a b : Nat) : mayF (a ||| b) = (mayF a && mayF b) := by
 rw [Bool.eq_iff_iff, Bool.and_eq_true, may_iff, may_iff, may_iff]
 constructor
 ·
  intro h
  constructor <;>
  ·
   apply Nat.eq_of_testBit_eq
   intro i
   have := congrArg (fun x => x.testBit i) h
   simp only [Nat.testBit_and, Nat.testBit_or] at this ⊢
   revert this
   cases a.testBit i <;> cases b.testBit i <;> simp
 ·
  rintro ⟨h1, h2⟩
  rw [Nat.and_or_distrib_right, h1, h2]
theorem cnt_and (s : Nat) : cntF (s &&& 1022) = cntF s := by rw [← cntF_list, ← cntF_list, list_and]
theorem cnt_meet (a b : Nat) : cntF (meetF a b) = cntF (a &&& b) := cnt_and _
theorem cnt_joinF (a b : Nat) : cntF (joinF a b) = cntF (a ||| b) := cnt_and _
theorem cnt_eq_zero {s : Nat} (h : mayF s = true) : cntF s = 0 ↔ s = 0 := by
 constructor
 ·
  intro h0
  rw [may_sum, decide_eq_true_iff] at h
  have hl : listF s = [] := List.eq_nil_of_length_eq_zero (by rw [cntF_list]; exact h0)
  rw [hl] at h
  simpa [sumL] using h.symm
 · rintro rfl; exact cnt_zero 9
theorem may_zero : mayF 0 = true := by decide
theorem join_may {a b : Nat} (ha : mayF a = true) (hb : mayF b = true) : joinF a b = a ||| b := by
 have : mayF (a ||| b) = true := by rw [may_or, ha, hb]; rfl
 exact may_iff.1 this
theorem may_sub {a b : Nat} (ha : mayF a = true) : mayF (a &&& b) = true := by
 rw [may_iff] at ha ⊢
 rw [Nat.and_assoc, Nat.and_comm b 1022, ← Nat.and_assoc, ha]
theorem meet_may {a : Nat} (b : Nat) (ha : mayF a = true) : meetF a b = a &&& b := may_iff.1 (may_sub ha)
def mayQ (q n : Int) : Bool := decide (1 ≤ q) && decide (q ≤ n)
def quoB (c : CfL) : Bool := mayQ c.e (cntF (votF c)) && mayQ c.k (cntF (votF c)) && decide ((cntF (votF c) : Int) < c.e + c.k) && decide ((cntF (votF c) : Int) < 2 * c.e)
def apartB (c : CfL) : Bool := decide (c.v &&& c.w = 0) && decide (votF c &&& c.l = 0)
def mayC (c : CfL) : Bool := mayF (memF c) && apartB c && decide (c.v ≠ 0) && quoB c
def mayJ (j : JtL) : Bool := mayC j.a && (if j.two then mayC j.b else decide (j.b = zeroC))
theorem may_parts {c : CfL} (h : mayC c = true) : mayF c.v = true ∧ mayF c.w = true ∧ mayF c.l = true ∧ c.v ≠ 0 ∧ 1 ≤ c.e ∧ c.e ≤ cntF (votF c) ∧ 1 ≤ c.k ∧ c.k ≤ cntF (votF c) ∧ (cntF (votF c) : Int) < c.e + c.k ∧ (cntF (votF c) : Int) < 2 * c.e := by
 simp only [mayC, quoB, mayQ, apartB, memF, may_or, Bool.and_eq_true, decide_eq_true_eq] at h
 obtain ⟨⟨⟨⟨⟨h1, h2⟩, h3⟩, _⟩, h4⟩, ⟨⟨⟨h5, h6⟩, h7, h8⟩, h9⟩, h10⟩ := h
 exact ⟨h1, h2, h3, h4, h5, h6, h7, h8, h9, h10⟩
theorem apart_cnt {c : CfL} (h1 : mayF c.v = true) (h2 : mayF c.w = true) (h3 : mayF c.l = true) : apartB c = decide (cntF (joinF (votF c) c.l) = cntF c.v + cntF c.w + cntF c.l) := by
 have j1 := cnt_join c.v c.w 9
 have j2 := cnt_join (c.v ||| c.w) c.l 9
 have z1 := cnt_eq_zero (may_sub (b := c.w) h1)
 have z2 := cnt_eq_zero (s := (c.v ||| c.w) &&& c.l) (by rw [Nat.and_comm]; exact may_sub h3)
 rw [cnt_joinF]
 unfold apartB votF
 unfold cntF at *
 rw [Bool.eq_iff_iff, Bool.and_eq_true, decide_eq_true_eq, decide_eq_true_eq, decide_eq_true_eq, ← z1, ← z2]
 omega
def elC (c : CfL) (got : Nat) : Bool := decide (c.e ≤ cntF (got &&& votF c))
def coC (c : CfL) (got : Nat) : Bool := decide (c.k ≤ cntF (got &&& votF c)) && decide (got &&& c.v ≠ 0)
def bothJ (j : JtL) (P : CfL → Bool) : Bool := P j.a && (!j.two || P j.b)
def elJ (j : JtL) (got : Nat) : Bool := bothJ j (elC · got)
def coJ (j : JtL) (got : Nat) : Bool := bothJ j (coC · got)
def unF (j : JtL) (f : CfL → Nat) : Nat := if j.two then f j.a ||| f j.b else f j.a
def ledF (j : JtL) (n : Int) : Bool := hasF (unF j (·.v)) n
theorem mayJ_a {j : JtL} (h : mayJ j = true) : mayC j.a = true := by
 unfold mayJ at h; rw [Bool.and_eq_true] at h; exact h.1
theorem mayJ_b {j : JtL} (h : mayJ j = true) (ht : j.two = true) : mayC j.b = true := by
 unfold mayJ at h; rw [Bool.and_eq_true, ht, if_pos rfl] at h; exact h.2
theorem un_lt {j : JtL} {f : CfL → Nat} (h1 : f j.a < 65536) (h2 : f j.b < 65536) : unF j f < 65536 := by
 unfold unF; split
 · exact Nat.or_lt_two_pow (n := 16) h1 h2
 · exact h1
theorem has_or (a b : Nat) (n : Int) : hasF (a ||| b) n = (hasF a n || hasF b n) := by
 simp only [hasF, Nat.testBit_or]
 cases nodeB n <;> simp
def stepB (j : JtL) (to : CfL) : Bool := decide (to.w ≠ j.a.w) || decide (to.v ^^^ (to.v &&& datF j.a) ≠ 0)
def changeE (j : JtL) (to : CfL) : Int := if j.two then 10 else if !mayC to then 11 else if stepB j to then 10 else 0
def changeJ (j : JtL) (to : CfL) : JtL := if changeE j to = 0 then ⟨j.a, to, true⟩ else zeroJ
def finalJ (j : JtL) : JtL := if j.two then ⟨j.b, zeroC, false⟩ else j
theorem final_ok {j : JtL} (h : j.ok) : (finalJ j).ok := by
 unfold finalJ; split
 · exact ⟨h.2, zero_ok⟩
 · exact h
theorem change_ok {j : JtL} {to : CfL} (h : j.ok) (ht : to.ok) : (changeJ j to).ok := by
 unfold changeJ; split
 · exact ⟨h.1, ht⟩
 · exact ⟨zero_ok, zero_ok⟩
theorem change_fine {j : JtL} {to : CfL} (h : changeE j to = 0) : j.two = false ∧ mayC to = true ∧ to.w = j.a.w ∧ changeJ j to = ⟨j.a, to, true⟩ := by
 refine ⟨?_, ?_, ?_, by unfold changeJ; rw [if_pos h]⟩ <;> unfold changeE at h
 ·
  cases ht : j.two with
  | false => rfl
  | true => rw [ht] at h; simp at h
 ·
  split at h
  · cases h
  ·
   split at h
   · cases h
   · rename_i _ h2; simpa using h2
 ·
  split at h
  · cases h
  ·
   split at h
   · cases h
   ·
    split at h
    · cases h
    ·
     rename_i _ _ h3
     simp only [stepB, Bool.or_eq_true, decide_eq_true_eq, not_or, Decidable.not_not] at h3
     exact h3.1
theorem change_mayJ {j : JtL} {to : CfL} (hj : mayC j.a = true) (h : changeE j to = 0) : mayJ (changeJ j to) = true ∧ mayJ (finalJ (changeJ j to)) = true := by
 obtain ⟨_, h2, _, h4⟩ := change_fine h
 rw [h4]
 unfold mayJ finalJ
 simp [hj, h2]
theorem change_two {j : JtL} (to : CfL) (h : j.two = true) : changeE j to = 10 ∧ changeJ j to = zeroJ := by
 have e : changeE j to = 10 := by unfold changeE; rw [h]; rfl
 exact ⟨e, by unfold changeJ; rw [e]; rfl⟩
theorem change_bad {j : JtL} {to : CfL} (h : j.two = false) (hm : mayC to = false) : changeE j to = 11 ∧ changeJ j to = zeroJ := by
 have e : changeE j to = 11 := by unfold changeE; rw [h, hm]; rfl
 exact ⟨e, by unfold changeJ; rw [e]; rfl⟩
theorem change_step {j : JtL} {to : CfL} (h : j.two = false) (hm : mayC to = true) (hs : stepB j to = true) : changeE j to = 10 ∧ changeJ j to = zeroJ := by
 have e : changeE j to = 10 := by unfold changeE; rw [h, hm, hs]; rfl
 exact ⟨e, by unfold changeJ; rw [e]; rfl⟩
theorem change_goes {j : JtL} {to : CfL} (h : j.two = false) (hm : mayC to = true) (hs : stepB j to = false) : changeE j to = 0 ∧ changeJ j to = ⟨j.a, to, true⟩ := by
 have e : changeE j to = 0 := by unfold changeE; rw [h, hm, hs]; rfl
 exact ⟨e, by unfold changeJ; rw [e]; rfl⟩
theorem xor_zero (x y : Nat) : x ^^^ y = 0 ↔ x = y := by
 constructor
 ·
  intro h
  apply Nat.eq_of_testBit_eq
  intro i
  have := congrArg (fun x => x.testBit i) h
  simp only [Nat.testBit_xor, Nat.zero_testBit] at this
  revert this
  cases x.testBit i <;> cases y.testBit i <;> simp
 · rintro rfl; exact Nat.xor_self x
theorem step_ref {j : JtL} {to : CfL} (hj : mayC j.a = true) (ht : mayC to = true) : stepB j to = (decide (to.w ≠ j.a.w) || decide (meetF to.v (joinF j.a.v j.a.l) ≠ to.v)) := by
 obtain ⟨a1, _, a3, _⟩ := may_parts hj
 obtain ⟨t1, _⟩ := may_parts ht
 rw [join_may a1 a3, meet_may _ t1]
 have e : decide (to.v ^^^ (to.v &&& datF j.a) ≠ 0) = decide (to.v &&& (j.a.v ||| j.a.l) ≠ to.v) := by
  rw [decide_eq_decide]
  exact not_congr ((xor_zero _ _).trans ⟨fun h => h.symm, fun h => h.symm⟩)
 unfold stepB
 rw [e]
end Go.Proofs.YtegnfkbmlalkeaaGreat.cf
namespace Go.Proofs.YtegnfkbmlalkeaaGreat.lg
open Go cf
structure EnL where
 t : Int
 k : Int
 d : ByteArray
 j : JtL
def zE : EnL := ⟨0, 0, ⟨#[]⟩, zeroJ⟩
structure LgL where
 b : Int
 t : Int
 j : JtL
 es : List EnL
def zL : LgL := ⟨0, 0, zeroJ, []⟩
def eqE (x y : EnL) : Bool := x.t == y.t && (x.k == y.k && (x.d.toList == y.d.toList && decide (x.j = y.j)))
theorem eqE_iff (x y : EnL) : eqE x y = true ↔ x = y := by
 obtain ⟨a, b, c, d⟩ := x
 obtain ⟨a', b', c', d'⟩ := y
 simp only [eqE, Bool.and_eq_true, beq_iff_eq, decide_eq_true_eq, EnL.mk.injEq, ByteArray.toList_eq]
 constructor
 ·
  rintro ⟨h1, h2, h3, h4⟩
  refine ⟨h1, h2, ?_, h4⟩
  obtain ⟨⟨u⟩⟩ := c
  obtain ⟨⟨v⟩⟩ := c'
  simpa using h3
 ·
  rintro ⟨h1, h2, h3, h4⟩
  exact ⟨h1, h2, by rw [h3], h4⟩
def eqEs : List EnL → List EnL → Bool
 | [], [] => true
 | x :: a, y :: b => eqE x y && eqEs a b
 | _, _ => false
theorem eqEs_iff : ∀ (a b : List EnL), eqEs a b = true ↔ a = b
 | [], [] => by simp [eqEs]
 | [], y :: b => by simp [eqEs]
 | x :: a, [] => by simp [eqEs]
 | x :: a, y :: b => by simp [eqEs, eqE_iff, eqEs_iff a b]
theorem eqEs_self (a : List EnL) : eqEs a a = true := (eqEs_iff a a).2 rfl
theorem eqEs_len {a b : List EnL} (h : a.length ≠ b.length) : eqEs a b = false := by
 rw [Bool.eq_false_iff]; intro hh; exact h (by rw [(eqEs_iff a b).1 hh])
theorem eqEs_drop {a b : List EnL} {i : Nat} {x y : EnL} (hx : a[i]? = some x) (hy : b[i]? = some y) : eqEs (a.drop i) (b.drop i) = (eqE x y && eqEs (a.drop (i + 1)) (b.drop (i + 1))) := by
 obtain ⟨h1, rfl⟩ := List.getElem?_eq_some_iff.1 hx
 obtain ⟨h2, rfl⟩ := List.getElem?_eq_some_iff.1 hy
 rw [List.drop_eq_getElem_cons h1, List.drop_eq_getElem_cons h2]; rfl
def eqL (a b : LgL) : Bool := a.b == b.b && (a.t == b.t && (decide (a.j = b.j) && eqEs a.es b.es))
theorem eqL_iff (a b : LgL) : eqL a b = true ↔ a = b := by
 obtain ⟨b1, t1, j1, e1⟩ := a
 obtain ⟨b2, t2, j2, e2⟩ := b
 simp [eqL, eqEs_iff]
theorem eqL_self (a : LgL) : eqL a a = true := (eqL_iff a a).2 rfl
def withB (n m : Int) : Bool := decide (m ≤ n) && decide (n ≤ 1099511627776)
def mayE : Int → List EnL → Bool
 | _, [] => true
 | t, e :: es => withB e.t t && mayE e.t es
theorem mayE_drop {t : Int} {es : List EnL} {i : Nat} {x : EnL} (h : es[i]? = some x) : mayE t (es.drop i) = (withB x.t t && mayE x.t (es.drop (i + 1))) := by
 obtain ⟨h1, rfl⟩ := List.getElem?_eq_some_iff.1 h
 rw [List.drop_eq_getElem_cons h1]; rfl
def mayF (l : LgL) : Bool := withB l.b 0 && (withB l.t 0 && mayE (max l.t 1) l.es)
theorem mayF_b {l : LgL} (h : mayF l = true) : 0 ≤ l.b ∧ l.b ≤ 1099511627776 := by
 simp [mayF, withB] at h; exact h.1
def lastF (l : LgL) : Int := l.b + l.es.length
def atF (l : LgL) (i : Int) : EnL × Bool := if l.b < i ∧ i ≤ lastF l then (l.es.getD (i - l.b - 1).toNat zE, true) else (zE, false)
def termF (l : LgL) (i : Int) : Int × Bool := if i = l.b then (l.t, true) else ((atF l i).1.t, (atF l i).2)
theorem atF_in {l : LgL} {i : Int} {k : Nat} {x : EnL} (hi : i = l.b + 1 + k) (hx : l.es[k]? = some x) : atF l i = (x, true) := by
 obtain ⟨h1, rfl⟩ := List.getElem?_eq_some_iff.1 hx
 unfold atF lastF
 rw [if_pos (by omega), show (i - l.b - 1).toNat = k by omega, List.getD_eq_getElem?_getD, hx]; rfl
theorem atF_out {l : LgL} {i : Int} (h : i ≤ l.b ∨ lastF l < i) : atF l i = (zE, false) := by
 unfold atF; rw [if_neg (by omega)]
theorem termF_is (l : LgL) (i : Int) : (termF l i).2 = decide (l.b ≤ i ∧ i ≤ lastF l) := by
 unfold termF
 by_cases h : i = l.b
 · rw [if_pos h]; simp; unfold lastF; omega
 ·
  rw [if_neg h]
  unfold atF
  by_cases h2 : l.b < i ∧ i ≤ lastF l
  · rw [if_pos h2]; simp; omega
  · rw [if_neg h2]; simp; omega
def sliceF (l : LgL) (a n : Int) : List EnL := (l.es.drop (max a (l.b + 1) - l.b - 1).toNat).take n.toNat
def pushF (l : LgL) (e : EnL) : LgL := { l with es := l.es ++ [e] }
def sameN : List EnL → List EnL → Nat
 | x :: a, y :: b => if x.t = y.t then sameN a b + 1 else 0
 | _, _ => 0
def joinB (l : LgL) (prev term : Int) (n : Nat) : Bool := decide (0 ≤ prev ∧ prev ≤ lastF l ∧ l.b ≤ prev + n) && (!(termF l prev).2 || (termF l prev).1 == term)
def laidF (l : LgL) (prev : Int) (es : List EnL) : List EnL :=
 let k := sameN (l.es.drop (max prev l.b - l.b).toNat) (es.drop (max prev l.b - prev).toNat)
 if k = (es.drop (max prev l.b - prev).toNat).length then l.es else l.es.take ((max prev l.b - l.b).toNat + k) ++ (es.drop (max prev l.b - prev).toNat).drop k
def mergeF (l : LgL) (prev term : Int) (es : List EnL) : LgL × Int × Bool :=
 if joinB l prev term es.length = true then ({ l with es := laidF l prev es }, prev + es.length, true) else (l, 0, false)
def confF (j : JtL) (es : List EnL) : JtL := es.foldl (fun a e => if e.k = 2 then e.j else a) j
theorem confF_snoc {j : JtL} {es : List EnL} {i : Nat} {x : EnL} (h : es[i]? = some x) : confF j (es.take (i + 1)) = if x.k = 2 then x.j else confF j (es.take i) := by
 obtain ⟨h1, rfl⟩ := List.getElem?_eq_some_iff.1 h
 rw [List.take_succ_eq_append_getElem h1, confF, List.foldl_append]; rfl
def compactF (l : LgL) (to : Int) : LgL × Int :=
 if (termF l to).2 = true then (⟨to, (termF l to).1, confF l.j (l.es.take (to - l.b).toNat), l.es.drop (to - l.b).toNat⟩, 0) else (zL, 1)
def newerF (l : LgL) (last term : Int) : Bool := if term = (termF l (lastF l)).1 then decide (lastF l ≤ last) else decide ((termF l (lastF l)).1 < term)
def Fit (l : LgL) : Prop := 0 ≤ l.b ∧ l.b ≤ 2199023255552 ∧ l.es.length ≤ 1000000
theorem fit_may {l : LgL} (h : mayF l = true) (hn : l.es.length ≤ 1000000) : Fit l := by
 have := mayF_b h
 exact ⟨by omega, by omega, hn⟩
end Go.Proofs.YtegnfkbmlalkeaaGreat.lg
namespace Go.Proofs.YtegnfkbmlalkeaaGreat.kit
open Go Go.RowKit nums cf
def cfC (c : CfL) : List Value := [.int .u16 (c.v : Int), .int .u16 (c.w : Int), .int .u16 (c.l : Int), .int .i64 c.e, .int .i64 c.k]
def cfV (c : CfL) : Value := .agg #[.int .u16 (c.v : Int), .int .u16 (c.w : Int), .int .u16 (c.l : Int), .int .i64 c.e, .int .i64 c.k]
def jtC (j : JtL) : List Value := [.int .u16 (j.a.v : Int), .int .u16 (j.a.w : Int), .int .u16 (j.a.l : Int), .int .i64 j.a.e, .int .i64 j.a.k, .int .u16 (j.b.v : Int), .int .u16 (j.b.w : Int), .int .u16 (j.b.l : Int), .int .i64 j.b.e, .int .i64 j.b.k, .bool j.two]
def jtV (j : JtL) : Value := .agg #[.int .u16 (j.a.v : Int), .int .u16 (j.a.w : Int), .int .u16 (j.a.l : Int), .int .i64 j.a.e, .int .i64 j.a.k, .int .u16 (j.b.v : Int), .int .u16 (j.b.w : Int), .int .u16 (j.b.l : Int), .int .i64 j.b.e, .int .i64 j.b.k, .bool j.two]
section
variable {w w' : World} {b o g : Nat} {E : TypeId} {a0 a1 a2 a3 a4 a5 a6 a7 a8 a9 a10 : Value}
theorem at5 (h : At w b o [a0, a1, a2, a3, a4]) : w.cell? ⟨b, o, none⟩ = some a0 ∧ w.cell? ⟨b, o + 1, none⟩ = some a1 ∧ w.cell? ⟨b, o + 2, none⟩ = some a2 ∧ w.cell? ⟨b, o + 3, none⟩ = some a3 ∧ w.cell? ⟨b, o + 4, none⟩ = some a4 :=
 ⟨h 0 _ rfl, h 1 _ rfl, h 2 _ rfl, h 3 _ rfl, h 4 _ rfl⟩
theorem blk5 (h : Blk E w g [a0, a1, a2, a3, a4]) : w.cell? ⟨g, 0, none⟩ = some a0 ∧ w.cell? ⟨g, 1, none⟩ = some a1 ∧ w.cell? ⟨g, 2, none⟩ = some a2 ∧ w.cell? ⟨g, 3, none⟩ = some a3 ∧ w.cell? ⟨g, 4, none⟩ = some a4 :=
 ⟨h.cell 0, h.cell 1, h.cell 2, h.cell 3, h.cell 4⟩
theorem blk11 (h : Blk E w g [a0, a1, a2, a3, a4, a5, a6, a7, a8, a9, a10]) : w.cell? ⟨g, 0, none⟩ = some a0 ∧ w.cell? ⟨g, 1, none⟩ = some a1 ∧ w.cell? ⟨g, 2, none⟩ = some a2 ∧ w.cell? ⟨g, 3, none⟩ = some a3 ∧ w.cell? ⟨g, 4, none⟩ = some a4 ∧ w.cell? ⟨g, 5, none⟩ = some a5 ∧ w.cell? ⟨g, 6, none⟩ = some a6 ∧ w.cell? ⟨g, 7, none⟩ = some a7 ∧ w.cell? ⟨g, 8, none⟩ = some a8 ∧ w.cell? ⟨g, 9, none⟩ = some a9 ∧ w.cell? ⟨g, 10, none⟩ = some a10 :=
 ⟨h.cell 0, h.cell 1, h.cell 2, h.cell 3, h.cell 4, h.cell 5, h.cell 6, h.cell 7, h.cell 8, h.cell 9, h.cell 10⟩
end
section
variable {w w0 : World} {g B : Nat} {E : TypeId} {a0 a1 a2 a3 a4 a5 a6 a7 a8 a9 a10 : Value} (b0 b1 b2 b3 b4 b5 b6 b7 b8 b9 b10 : Value)
theorem put11 (K : Blk E w g [a0, a1, a2, a3, a4, a5, a6, a7, a8, a9, a10]) : Blk E (((((((((((w.setCell ⟨g, 0, none⟩ b0).setCell ⟨g, 1, none⟩ b1).setCell ⟨g, 2, none⟩ b2).setCell ⟨g, 3, none⟩ b3).setCell ⟨g, 4, none⟩ b4).setCell ⟨g, 5, none⟩ b5).setCell ⟨g, 6, none⟩ b6).setCell ⟨g, 7, none⟩ b7).setCell ⟨g, 8, none⟩ b8).setCell ⟨g, 9, none⟩ b9).setCell ⟨g, 10, none⟩ b10) g [b0, b1, b2, b3, b4, b5, b6, b7, b8, b9, b10] := (((((((((((K.set_ 0 b0).set_ 1 b1).set_ 2 b2).set_ 3 b3).set_ 4 b4).set_ 5 b5).set_ 6 b6).set_ 7 b7).set_ 8 b8).set_ 9 b9).set_ 10 b10)
theorem below11 (h : Below B w0 w) (hg : B ≤ g) : Below B w0 (((((((((((w.setCell ⟨g, 0, none⟩ b0).setCell ⟨g, 1, none⟩ b1).setCell ⟨g, 2, none⟩ b2).setCell ⟨g, 3, none⟩ b3).setCell ⟨g, 4, none⟩ b4).setCell ⟨g, 5, none⟩ b5).setCell ⟨g, 6, none⟩ b6).setCell ⟨g, 7, none⟩ b7).setCell ⟨g, 8, none⟩ b8).setCell ⟨g, 9, none⟩ b9).setCell ⟨g, 10, none⟩ b10) := (((((((((((h.setCell (p := ⟨g, 0, none⟩) hg b0).setCell (p := ⟨g, 1, none⟩) hg b1).setCell (p := ⟨g, 2, none⟩) hg b2).setCell (p := ⟨g, 3, none⟩) hg b3).setCell (p := ⟨g, 4, none⟩) hg b4).setCell (p := ⟨g, 5, none⟩) hg b5).setCell (p := ⟨g, 6, none⟩) hg b6).setCell (p := ⟨g, 7, none⟩) hg b7).setCell (p := ⟨g, 8, none⟩) hg b8).setCell (p := ⟨g, 9, none⟩) hg b9).setCell (p := ⟨g, 10, none⟩) hg b10)
end
theorem row_at {w : World} {E : TypeId} {g : Nat} {l : List Value} (h : Blk E w g l) : At w g 0 l := fun j u hu => by rw [Nat.zero_add, h.cell]; exact hu
end Go.Proofs.YtegnfkbmlalkeaaGreat.kit
namespace Go.Proofs.YtegnfkbmlalkeaaGreat.cr
open nums se cf lg
structure MsL where
 k : Int
 f : Int
 t : Int
 m : Int
 i : Int
 lt : Int
 c : Int
 s : Int
 y : Bool
 es : List EnL
 d : ByteArray
 j : JtL
def zM : MsL := ⟨0, 0, 0, 0, 0, 0, 0, 0, false, [], ⟨#[]⟩, zeroJ⟩
structure CoL where
 id : Int
 ro : Int
 tm : Int
 vo : Int
 le : Int
 wa : Int
 cm : Int
 sf : Int
 lg : LgL
 sn : ByteArray
 vs : Nat
 he : Nat
 nx : Nat → Int
 mt : Nat → Int
def z10 : Nat → Int := fun _ => 0
def upd (f : Nat → Int) (k : Nat) (v : Int) : Nat → Int := fun j => if j = k then v else f j
def zC : CoL := ⟨0, 0, 0, 0, 0, 0, 0, 0, zL, ⟨#[]⟩, 0, 0, z10, z10⟩
def newC (id : Int) (j : JtL) : CoL := { zC with id := id, lg := { zL with j := j } }
def patF (id : Int) : Int := 12 + 4 * id
def mayG (l : LgL) : Bool := lg.mayF l && (mayJ l.j && l.es.all fun e => !(e.k == 2) || mayJ e.j)
def upB (n m : Int) : Bool := decide (0 ≤ n) && decide (n ≤ m)
def mayK (c : CoL) : Bool :=
 nodeB c.id && (upB c.ro 2 && (upB c.tm 1099511627776 && (upB c.vo 9 && (upB c.le 9 && (mayG c.lg && (decide ((termF c.lg (lastF c.lg)).1 ≤ c.tm) && (decide (c.lg.b ≤ c.cm ∧ c.cm ≤ lastF c.lg) && (upB c.wa 1099511627776 && (upB c.sf 1099511627776 && ((List.range 10).all fun k => upB (c.nx k) 2199023255552 && upB (c.mt k) (lastF c.lg)))))))))))
def conC (c : CoL) : JtL := confF c.lg.j c.lg.es
def cnoL (b : Int) (es : List EnL) : Nat → Int
 | 0 => b
 | k + 1 => if (es[k]?).map (·.k) = some 2 then b + 1 + (k : Int) else cnoL b es k
def cnoF (l : LgL) : Int := cnoL l.b l.es l.es.length
def atC (l : LgL) : Int := cnoF l
def sayF (c : CoL) (to : Int) (m : MsL) : MsL := { m with f := c.id, t := to, m := c.tm }
def nxF (c : CoL) (n : Int) : Int := c.nx n.toNat
def mtF (c : CoL) (n : Int) : Int := c.mt n.toNat
def sendF (c : CoL) (n : Int) : MsL :=
 if nxF c n ≤ c.lg.b then sayF c n { zM with k := 5, i := c.lg.b, lt := c.lg.t, d := c.sn, j := c.lg.j, c := c.cm, s := c.sf }
 else sayF c n { zM with k := 3, i := nxF c n - 1, lt := (termF c.lg (nxF c n - 1)).1, es := sliceF c.lg (nxF c n) 8, c := c.cm, s := c.sf }
def allF (c : CoL) : List MsL := ((listF (unF (conC c) memF)).filter (fun n => !(n == c.id))).map (sendF c)
def pushC (c : CoL) (e : EnL) : CoL := { c with lg := pushF c.lg { e with t := c.tm }, mt := upd c.mt c.id.toNat (lastF c.lg + 1) }
def hasTo (c : CoL) (i : Int) : Nat → Nat
 | 0 => 0
 | n + 1 => if i ≤ mtF c ((n + 1 : Nat) : Int) then withF (hasTo c i n) ((n + 1 : Nat) : Int) else hasTo c i n
def hasC (c : CoL) (i : Int) : Nat := hasTo c i 9
def leastL (c : CoL) (s : Int) (l : List Int) : Int := l.foldl (fun s v => if s < 0 ∨ mtF c v < s then mtF c v else s) s
def twoF (j : JtL) : List CfL := if j.two then [j.a, j.b] else [j.a]
def leastC (c : CoL) : Int := (twoF (conC c)).foldl (fun s x => leastL c s (listF x.v)) (-1)
def seekF (p : Int → Bool) (lo : Int) : Nat → Int
 | 0 => lo
 | k + 1 => if p (lo + ((k + 1 : Nat) : Int)) then lo + ((k + 1 : Nat) : Int) else seekF p lo k
def cmtP (c : CoL) (i : Int) : Bool := decide ((termF c.lg i).1 = c.tm) && coJ (conC c) (hasC c i)
def cntC (c : CoL) : CoL := { c with cm := seekF (cmtP c) c.cm (lastF c.lg - c.cm).toNat, sf := max c.sf (leastC c) }
def yieC (c : CoL) : CoL := { c with ro := 0, le := 0, wa := 0 }
def fiE (j : JtL) : EnL := { zE with k := 2, j := finalJ j }
def endC (c : CoL) : CoL := if atC c.lg ≤ c.cm then (if ledF (conC c) c.id then c else yieC c) else c
def couC (c : CoL) : CoL :=
 let d := cntC c
 if atC d.lg ≤ d.cm ∧ (conC d).two = true then endC (cntC (pushC d (fiE (conC d)))) else endC d
def winC (c : CoL) : CoL := couC (pushC { c with ro := 2, le := c.id, wa := 0, he := 0, nx := fun _ => lastF c.lg + 1, mt := z10 } zE)
def winsF (c : CoL) : CoL × List MsL := (winC c, allF (winC c))
def askM (c : CoL) : MsL := { zM with k := 1, i := lastF c.lg, lt := (termF c.lg (lastF c.lg)).1, c := c.cm }
def standC (c : CoL) : CoL := { c with tm := c.tm + 1, ro := 1, vo := c.id, vs := withF 0 c.id, le := 0, wa := 0 }
def tickF (c0 : CoL) : CoL × List MsL :=
 let c := { c0 with wa := c0.wa + 1 }
 if c0.ro = 2 then
  let out := if c.wa % 2 = 0 then allF c else []
  (if c.wa = 10 then (if coJ (conC c) (withF c.he c.id) then { c with he := 0, wa := 0 } else yieC c) else c, out)
 else if ledF (conC c) c.id && decide (patF c.id ≤ c.wa) && decide (c.tm < 1099511627776) then
  let d := standC c
  if elJ (conC d) d.vs then winsF d
  else (d, ((listF (unF (conC d) votF)).filter (fun n => !(n == d.id))).map (fun n => sayF d n (askM d)))
 else (c, [])
def bouF (v : Int) : Int := min (max v 0) 1099511627776
def bouM (m : MsL) : MsL := { m with i := bouF m.i, c := bouF m.c, s := bouF m.s }
def deafB (c : CoL) (m : MsL) : Bool :=
 !(m.t == c.id) || !nodeB m.f || m.f == c.id || decide (m.m < 1) || decide (1099511627776 < m.m) || decide (m.k < 1) || decide (6 < m.k) ||
  (m.k == 1 && (c.ro == 2 || (!(c.le == 0) && decide (c.wa < 10))))
def termC (c : CoL) (m : MsL) : CoL := if c.tm < m.m then { c with tm := m.m, vo := 0, le := 0, ro := 0, wa := if c.ro = 2 then 0 else c.wa } else c
def staleF (c : CoL) (m : MsL) : List MsL :=
 if m.k = 1 then [sayF c m.f { zM with k := 2 }] else if m.k = 3 ∨ m.k = 5 then [sayF c m.f { zM with k := 4 }] else []
def lendAt (c : CoL) (m : MsL) : Int := if (termF c.lg m.i).2 = true ∧ (termF c.lg m.i).1 = m.lt then m.i else c.lg.b
def askF (c : CoL) (m : MsL) : CoL × List MsL :=
 let nw := newerF c.lg m.i m.lt
 if (c.vo = 0 ∨ c.vo = m.f) ∧ c.ro = 0 ∧ nw = true then
  let d := { c with vo := m.f, wa := 0 }
  (d, [sayF d m.f { zM with k := 2, y := true }])
 else if nw = true then (c, [sayF c m.f { zM with k := 2 }])
 else (c, [sayF c m.f { zM with k := 2 }, sayF c m.f { zM with k := 6, i := lendAt c m, lt := (termF c.lg (lendAt c m)).1, es := sliceF c.lg (lendAt c m + 1) 16384 }])
def takeB (c : CoL) (m : MsL) : Bool :=
 if m.k = 5 then mayJ m.j && upB m.lt c.tm
 else (m.es.all fun e => decide (e.t ≤ c.tm) && (!(e.k == 2) || mayJ e.j)) &&
  (!(mergeF c.lg m.i m.lt m.es).2.2 || (lg.mayF (mergeF c.lg m.i m.lt m.es).1 && decide ((mergeF c.lg m.i m.lt m.es).1.es.length ≤ 4096)))
def follC (c : CoL) (m : MsL) : CoL := { c with ro := 0, le := m.f, wa := 0 }
def snapF (c : CoL) (m : MsL) : CoL × List MsL :=
 let d := { c with sf := max c.sf m.s }
 if m.i ≤ d.cm then (d, [sayF d m.f { zM with k := 4, y := true, i := d.cm }])
 else
  let l : LgL := if (termF d.lg m.i).2 = true ∧ (termF d.lg m.i).1 = m.lt then { (compactF d.lg m.i).1 with j := m.j } else ⟨m.i, m.lt, m.j, []⟩
  let e := { d with lg := l, sn := m.d, cm := m.i }
  (e, [sayF e m.f { zM with k := 4, y := true, i := m.i }])
def toldF (c : CoL) (m : MsL) : CoL × List MsL :=
 if takeB c m = true then
  let r := mergeF c.lg m.i m.lt m.es
  if m.k = 6 then
   (if r.2.2 = true ∧ newerF c.lg (lastF r.1) (termF r.1 (lastF r.1)).1 = true then { c with lg := r.1, cm := min c.cm (lastF r.1) } else c, [])
  else
   let d := follC c m
   if m.k = 5 then snapF d m
   else if r.2.2 = true then
    let e := { d with lg := r.1, cm := min (max d.cm (min m.c r.2.1)) (lastF r.1), sf := max d.sf m.s }
    (e, [sayF e m.f { zM with k := 4, y := true, i := r.2.1 }])
   else (d, [sayF d m.f { zM with k := 4, i := max (min (m.i - 1) (lastF d.lg)) 0 }])
 else (c, [])
def ackF (c : CoL) (m : MsL) : CoL × List MsL :=
 if c.ro = 2 then
  let c1 := { c with he := withF c.he m.f }
  if m.y = true then
   let v := max (mtF c1 m.f) (min m.i (lastF c1.lg))
   let d := couC { c1 with mt := upd c1.mt m.f.toNat v, nx := upd c1.nx m.f.toNat (v + 1) }
   (d, if d.ro = 2 ∧ nxF d m.f ≤ lastF d.lg then [sendF d m.f] else [])
  else
   let d := { c1 with nx := upd c1.nx m.f.toNat (max (min (m.i + 1) (lastF c1.lg + 1)) (mtF c1 m.f + 1)) }
   (d, [sendF d m.f])
 else (c, [])
def voteF (c : CoL) (m : MsL) : CoL × List MsL :=
 if c.ro = 1 ∧ m.y = true then
  let d := { c with vs := withF c.vs m.f }
  if elJ (conC d) d.vs = true then winsF d else (d, [])
 else (c, [])
def stepF (c0 : CoL) (m0 : MsL) : CoL × List MsL :=
 if deafB c0 m0 = true then (c0, [])
 else
  let c := termC c0 m0
  if m0.m < c0.tm then (c, staleF c m0)
  else
   let m := bouM m0
   if m.k = 1 then askF c m
   else if m.k = 2 then voteF c m
   else if m.k = 4 then ackF c m
   else if c.ro = 2 then (c, []) else toldF c m
def lagB (c : CoL) (j : JtL) (to : CfL) : Bool := (listF to.v).any fun n => !hasF j.a.v n && decide (mtF c n < c.cm)
def chE (c : CoL) (to : CfL) : Int :=
 if (termF c.lg c.cm).1 ≠ c.tm ∨ c.cm < atC c.lg then 10 else if changeE (conC c) to ≠ 0 then changeE (conC c) to else if lagB c (conC c) to = true then 10 else 0
def propX (c : CoL) (e : EnL) : EnL := if e.k = 2 then { zE with k := 2, j := changeJ (conC c) e.j.b } else { zE with k := e.k, d := e.d }
def propE (c : CoL) (e : EnL) : Int :=
 if c.ro ≠ 2 then 27 else if e.k ≠ 1 ∧ e.k ≠ 2 then 9 else if 4032 ≤ c.lg.es.length then 8 else if e.k = 2 then chE c e.j.b else 0
def propF (c : CoL) (e : EnL) : CoL × List MsL × Int × Int :=
 if propE c e = 0 then
  let p := pushC c (propX c e)
  let d := couC p
  (d, if d.ro = 2 then allF d else [], lastF p.lg, 0)
 else (zC, [], 0, propE c e)
def compF (c : CoL) (to : Int) (d : ByteArray) : CoL × Int := if c.cm < to ∨ to < c.lg.b then (zC, 1) else ({ c with lg := (compactF c.lg to).1, sn := d }, 0)
end Go.Proofs.YtegnfkbmlalkeaaGreat.cr
namespace Go.Proofs.YtegnfkbmlalkeaaGreat.tail
open Go
section
variable {P : Program} {ops : Array Oper} {Q : Exit → Act → World → Prop} {md : Region.Mode} {S : World → Prop} {F : List Nat}
def AnyT (P : Program) (md : Region.Mode) (ops : Array Oper) (Q : Exit → Act → World → Prop) (S : World → Prop) (F : List Nat) : Nat → Array Bool → Act → World → Prop
 | 0, done, a, w => Region.ready md ops done = [] ∧ Q .normal a w
 | n + 1, done, a, w => (Region.ready md ops done = [] → Q .normal a w) ∧
   ∀ i ∈ Region.ready md ops done, wpOp P ops Q i (fun b u => (i ∈ F ∨ S u) ∧ AnyT P md ops Q S F n (done.setIfInBounds i true) b u) a w
theorem AnyT.plain : ∀ (n : Nat) (done : Array Bool) (a : Act) (w : World), AnyT P md ops Q S F n done a w → wpAny P md ops Q n done a w := by
 intro n
 induction n with
 | zero => exact fun _ _ _ h => h
 | succ n ih => exact fun _ _ _ h => ⟨h.1, fun i hi => wpOp_mono (fun b u hb => ih _ _ _ hb.2) (h.2 i hi)⟩
def reach (md : Region.Mode) (ops : Array Oper) (i : Nat) : Nat → Nat → Bool
 | 0, _ => false
 | n + 1, j => match ops[j]? with
  | some o => o.after.any fun e => Region.binds md e && (e.on == i || reach md ops i n e.on)
  | none => false
def waits (md : Region.Mode) (ops : Array Oper) (F : List Nat) (i : Nat) : Bool := F.all fun j => reach md ops i ops.size j
def Closed (md : Region.Mode) (ops : Array Oper) (done : Array Bool) : Prop :=
 ∀ j o, ops[j]? = some o → done.getD j false = true → ∀ e ∈ o.after, Region.binds md e = true → done.getD e.on false = true
def closedB (md : Region.Mode) (ops : Array Oper) (done : Array Bool) : Bool := (List.range ops.size).all fun j => match ops[j]? with
 | some o => !done.getD j false || o.after.all fun e => !Region.binds md e || done.getD e.on false
 | none => true
theorem Closed.of {done : Array Bool} (h : closedB md ops done = true) : Closed md ops done := by
 intro j o ho hd e he hb
 have h1 := List.all_eq_true.1 h j (List.mem_range.2 (Array.getElem?_eq_some_iff.1 ho).1)
 simp only [ho, hd, Bool.not_true, Bool.false_or] at h1
 have h2 := Array.all_eq_true_iff_forall_mem.1 h1 e he
 simpa [hb] using h2
theorem Closed.set {done : Array Bool} {i : Nat} (h : Closed md ops done) (hi : i ∈ Region.ready md ops done) : Closed md ops (done.setIfInBounds i true) := by
 intro j o ho hd e he hb
 by_cases hij : i = j
 ·
  subst hij
  obtain ⟨_, o', ho', hall⟩ := mem_ready.1 hi
  rw [ho] at ho'
  obtain rfl := Option.some.inj ho'
  exact getD_set_true (hall e he hb)
 ·
  rw [getD_set_ne false hij] at hd
  exact getD_set_true (h j o ho hd e he hb)
theorem reached {i : Nat} {done : Array Bool} (hC : Closed md ops done) : ∀ (n j : Nat) (o : Oper), ops[j]? = some o → (∀ e ∈ o.after, Region.binds md e = true → done.getD e.on false = true) → reach md ops i n j = true → done.getD i false = true := by
 intro n
 induction n with
 | zero => intro j o _ _ h; cases h
 | succ n ih =>
  intro j o ho hd h
  simp only [reach, ho] at h
  obtain ⟨k, hk, hk2⟩ := Array.any_eq_true.1 h
  simp only [Bool.and_eq_true, Bool.or_eq_true, beq_iff_eq] at hk2
  obtain ⟨hb, hk3⟩ := hk2
  have hdone := hd _ (Array.getElem_mem hk) hb
  rcases hk3 with hk3 | hk3
  · rw [← hk3]; exact hdone
  ·
   cases ho2 : ops[o.after[k].on]? with
   | none => cases n <;> simp [reach, ho2] at hk3
   | some o2 => exact ih _ o2 ho2 (fun e he hb2 => hC _ o2 ho2 hdone e he hb2) hk3
theorem take_go {i : Nat} {o : Oper} {v : Value} (ho : ops[i]? = some o) (hs : Region.noSelect ops = true) (hF : waits md ops F i = true)
  (hQ : ∀ c a w, Q (.panic c) (a.put o.dst v) w → Q (.panic c) a w) : ∀ (n : Nat) (done : Array Bool) (a : Act) (w : World), Closed md ops done →
  (∀ j oj, ops[j]? = some oj → j ≠ i → done.getD j true = false → (∀ e ∈ oj.after, Region.binds md e = true → e.on ≠ i) → o.apart ops oj = true) →
  i ∈ Region.ready md ops done → YieldsIf P ops S o v a → S w → AnyT P md ops Q S F n (done.setIfInBounds i true) (a.put o.dst v) w → AnyT P md ops Q S F (n + 1) done a w := by
 intro n
 induction n with
 | zero =>
  intro done a w hC hap hr hy hS h
  refine ⟨fun h0 => absurd hr (by rw [h0]; simp), fun j hj => ?_⟩
  by_cases hji : j = i
  · rw [hji]; exact hy.wpOp ho hS ⟨.inr hS, h⟩
  · exact absurd (ready_mono hj hji) (by rw [h.1]; simp)
 | succ n ih =>
  intro done a w hC hap hr hy hS h
  refine ⟨fun h0 => absurd hr (by rw [h0]; simp), fun j hj => ?_⟩
  by_cases hji : j = i
  · rw [hji]; exact hy.wpOp ho hS ⟨.inr hS, h⟩
  obtain ⟨hun, oj, hoj, hdep⟩ := mem_ready.1 hj
  have hui := (mem_ready.1 hr).1
  -- what may come up now does not wait for i
  have hfree : ∀ e ∈ oj.after, Region.binds md e = true → e.on ≠ i := by
   intro e he hb heq
   have h1 := hdep e he hb
   rw [heq] at h1
   rcases Nat.lt_or_ge i done.size with hlt | hge
   ·
    simp [hlt] at hui h1
    rw [hui] at h1
    cases h1
   · simp [Array.getElem?_eq_none hge] at h1
  have hnF : j ∉ F := fun hjF => by
   have h1 := reached hC ops.size j oj hoj hdep (List.all_eq_true.1 hF j hjF)
   rcases Nat.lt_or_ge i done.size with hlt | hge
   ·
    simp [hlt] at hui h1
    rw [hui] at h1
    cases h1
   · simp [Array.getElem?_eq_none hge] at h1
  have h2 := wpOp_putIf hoj (hap j oj hoj hji hun hfree) (fun cs b => Region.noSelect_spec hs i o cs b ho) (fun cs b => Region.noSelect_spec hs j oj cs b hoj) hQ hy (h.2 j (ready_mono hj hji))
  refine wpOp_mono ?_ h2
  rintro b u ⟨hyb, hSu, hb⟩
  have hSu' : S u := hSu.resolve_left hnF
  refine ⟨.inr hSu', ih _ _ _ (hC.set hj) (fun k ok hok hki hk hno => ?_) (ready_mono hr (fun h => hji h.symm)) hyb hSu' (by rw [Array.setIfInBounds_comm _ _ hji]; exact hb)⟩
  refine hap k ok hok hki ?_ hno
  by_cases hjk : j = k
  · rw [← hjk]; exact hun
  · rw [← getD_set_ne true hjk]; exact hk
theorem take {i : Nat} {oi : Oper} {v : Value} {n : Nat} {done : Array Bool} {a : Act} {w : World} (hi : ops[i]? = some oi)
  (hs : Region.noSelect ops = true) (hf : Region.free md ops done i = true) (hr : (Region.ready md ops done).contains i = true)
  (hQ : ∀ c a w, Q (.panic c) (a.put oi.dst v) w → Q (.panic c) a w) (hy : YieldsIf P ops S oi v a) (hS : S w) (hF : waits md ops F i = true) (hC : closedB md ops done = true)
  (h : AnyT P md ops Q S F n (done.setIfInBounds i true) (a.put oi.dst v) w) : AnyT P md ops Q S F (n + 1) done a w :=
 take_go hi hs hF hQ n done a w (Closed.of hC) (Region.free_spec hi hf) (by simpa using hr) hy hS h
theorem next {i : Nat} {o : Oper} {n : Nat} {done : Array Bool} {a : Act} {w : World} (ho : ops[i]? = some o) (hr : Region.ready md ops done = [i])
  (h : ∀ K : Act → World → Prop, Shut (∀ b u, (i ∈ F ∨ S u) → AnyT P md ops Q S F n (done.setIfInBounds i true) b u → K b u) →
   if Region.wanted o (yielded ops a.tmps) = true then Oper.wp P o a w K Q else K (a.put o.dst undef) w) : AnyT P md ops Q S F (n + 1) done a w := by
 refine ⟨fun h0 => (by rw [hr] at h0; cases h0), fun j hj => ?_⟩
 rw [hr] at hj
 obtain rfl := List.mem_singleton.1 hj
 exact wpOp_step ho (fun K hK => h K (fun b u h1 h2 => hK b u ⟨h1, h2⟩))
theorem done {l : Array Bool} {a : Act} {w : World} (hr : Region.ready md ops l = []) (h : Q .normal a w) : ∀ n, AnyT P md ops Q S F n l a w
 | 0 => ⟨hr, h⟩
 | _ + 1 => ⟨fun _ => h, by rw [hr]; simp⟩
theorem region {id : Nat} {a : Act} {w : World} (F : List Nat) (hm : P.follows .mixedOrders = true) (hS : S w.drew)
  (h : S w.drew → AnyT P .any ops Q S F ops.size (Array.replicate ops.size false) a w.drew) : (Code.region id ops true).wp P Q a w :=
 wp_region_any hm (AnyT.plain _ _ _ _ (h hS))
end
end Go.Proofs.YtegnfkbmlalkeaaGreat.tail
namespace Go.Proofs.YtegnfkbmlalkeaaGreat.tail
open Go kit
section
variable {P : Program} {md : Region.Mode} {ops : Array Oper} {Q : Exit → Act → World → Prop} {S : World → Prop} {F : List Nat}
theorem tt (i : Nat) {oi : Oper} {v : Value} {n : Nat} {done : Array Bool} {a : Act} {w : World} (hy : ∀ w, S w → (execOp a.eval oi).run P w = .ok (.value v) w) (h : AnyT P md ops Q S F n (done.setIfInBounds i true) (a.put oi.dst v) w) (hi : oprAt ops.toList i = some oi := by rfl)
  (hs : Region.noSelect ops = true := by kernel_rfl) (hf : Region.free md ops done i = true := by kernel_rfl) (hr : (Region.ready md ops done).contains i = true := by kernel_rfl)
  (hQ : ∀ c a w, Q (.panic c) (a.put oi.dst v) w → Q (.panic c) a w := by exact fun _ _ _ h => h) (hw : Region.wanted oi (yielded ops a.tmps) = true := by rfl) (hS : S w := by assumption) (hF : waits md ops F i = true := by kernel_rfl) (hC : closedB md ops done = true := by kernel_rfl) : AnyT P md ops Q S F (n + 1) done a w :=
 take (oprAt_arr hi) hs hf hr hQ (Or.inl ⟨hw, hy⟩) hS hF hC h
theorem tn (i : Nat) {o : Oper} {n : Nat} {done : Array Bool} {a : Act} {w : World}
  (h : ∀ K : Act → World → Prop, Shut (∀ b u, (i ∈ F ∨ S u) → AnyT P md ops Q S F n (done.setIfInBounds i true) b u → K b u) →
   if Region.wanted o (yielded ops a.tmps) = true then Oper.wp P o a w K Q else K (a.put o.dst undef) w) (ho : oprAt ops.toList i = some o := by rfl) (hr : Region.ready md ops done = [i] := by kernel_rfl) : AnyT P md ops Q S F (n + 1) done a w := next (oprAt_arr ho) hr h
end
end Go.Proofs.YtegnfkbmlalkeaaGreat.tail
namespace Go.Proofs.YtegnfkbmlalkeaaGreat.kit
open Go Go.RowKit nums cf
theorem cf_zero (v x l : Nat) (e k : Int) : ((⟨v, x, l, e, k⟩ : CfL) = zeroC) ↔ v = 0 ∧ x = 0 ∧ l = 0 ∧ e = 0 ∧ k = 0 := by simp [zeroC]
theorem neq_zero (v x l : Nat) (e k : Int) (w : World) : (binOp .neq 25 (.agg #[.int .u16 (v : Int), .int .u16 (x : Int), .int .u16 (l : Int), .int .i64 e, .int .i64 k]) (.agg #[.int .u16 0, .int .u16 0, .int .u16 0, .int .i64 0, .int .i64 0])).run Tryz.prog w = .ok (.bool (!decide ((⟨v, x, l, e, k⟩ : CfL) = zeroC))) w := by
 have hd : decide ((⟨v, x, l, e, k⟩ : CfL) = zeroC) = decide (v = 0 ∧ x = 0 ∧ l = 0 ∧ e = 0 ∧ k = 0) := decide_eq_decide.2 (cf_zero v x l e k)
 rw [hd]
 clear hd
 by_cases h1 : v = 0 <;> by_cases h2 : x = 0 <;> by_cases h3 : l = 0 <;> by_cases h4 : e = 0 <;> by_cases h5 : k = 0
 all_goals go_simp
end Go.Proofs.YtegnfkbmlalkeaaGreat.kit
namespace Go.Proofs.YtegnfkbmlalkeaaGreat.cr
open nums se cf lg
theorem may_small {s : Nat} (h : se.mayF s = true) : s < 65536 := by
 have h1 := may_iff.1 h
 have : s &&& 1022 ≤ 1022 := Nat.and_le_right
 omega
theorem mayC_ok {c : CfL} (h : mayC c = true) : c.ok := by
 obtain ⟨h1, h2, h3, _, h5, h6, h7, h8, _⟩ := may_parts h
 have h9 := cntF_le (votF c)
 refine ⟨may_small h1, may_small h2, may_small h3, ?_, ?_⟩ <;> unfold In64 <;> omega
theorem mayJ_ok {j : JtL} (h : mayJ j = true) : j.ok := by
 refine ⟨mayC_ok (mayJ_a h), ?_⟩
 cases ht : j.two with
 | true => exact mayC_ok (mayJ_b h ht)
 | false =>
  unfold mayJ at h
  rw [Bool.and_eq_true, ht] at h
  have := of_decide_eq_true h.2
  rw [this]; exact zero_ok
theorem conf_may : ∀ {es : List EnL} {j : JtL}, mayJ j = true → (es.all fun e => !(e.k == 2) || mayJ e.j) = true → mayJ (confF j es) = true
 | [], j, hj, _ => hj
 | e :: es, j, hj, h => by
  rw [List.all_cons, Bool.and_eq_true] at h
  show mayJ (confF (if e.k = 2 then e.j else j) es) = true
  refine conf_may ?_ h.2
  by_cases hk : e.k = 2
  ·
   rw [if_pos hk]
   have := h.1
   simpa [hk] using this
  · rw [if_neg hk]; exact hj
def GoodN (d : CoL) (N : Nat) : Prop := Fit d.lg ∧ d.lg.es.length ≤ N ∧ 0 ≤ d.id ∧ d.id ≤ 9 ∧ (conC d).ok ∧ mayJ (conC d) = true ∧ d.lg.b ≤ d.cm ∧ d.cm ≤ lastF d.lg
structure GoodK (c : CoL) : Prop where
 id1 : 1 ≤ c.id
 n : GoodN c 700000
 la : lastF c.lg ≤ 2199023255550
 ro : 0 ≤ c.ro ∧ c.ro ≤ 2
 tm : 0 ≤ c.tm ∧ c.tm ≤ 1099511627776
 vo : 0 ≤ c.vo ∧ c.vo ≤ 9
 le : 0 ≤ c.le ∧ c.le ≤ 9
 wa : 0 ≤ c.wa ∧ c.wa ≤ 1099511627776
 sf : 0 ≤ c.sf ∧ c.sf ≤ 1099511627776
 nx : ∀ k : Nat, k < 10 → 0 ≤ c.nx k ∧ c.nx k ≤ 2199023255552
 mt : ∀ k : Nat, k < 10 → 0 ≤ c.mt k ∧ c.mt k ≤ lastF c.lg
 vs : c.vs < 65536
 he : c.he < 65536
theorem upB_iff {n m : Int} : upB n m = true ↔ 0 ≤ n ∧ n ≤ m := by unfold upB; rw [Bool.and_eq_true, decide_eq_true_eq, decide_eq_true_eq]
theorem good_may {c : CoL} (h : mayK c = true) (hl : c.lg.es.length ≤ 700000) (hv : c.vs < 65536) (hh : c.he < 65536) : GoodK c := by
 simp only [mayK, Bool.and_eq_true, upB_iff, decide_eq_true_eq, List.all_eq_true, List.mem_range] at h
 obtain ⟨h1, h2, h3, h4, h5, h6, h7, h8, h9, h10, h11⟩ := h
 simp only [mayG, Bool.and_eq_true] at h6
 obtain ⟨g1, g2, g3⟩ := h6
 have hb := mayF_b g1
 have hj : mayJ (conC c) = true := conf_may g2 g3
 obtain ⟨k, hk, k1, k9⟩ := nodeB_nat h1
 have hla : lastF c.lg ≤ 2199023255550 := by unfold lastF; omega
 exact ⟨by omega, ⟨⟨hb.1, by omega, by omega⟩, hl, by omega, by omega, mayJ_ok hj, hj, h8.1, h8.2⟩, hla, h2, h3, h4, h5, h9, h10, fun k hk => (h11 k hk).1, fun k hk => (h11 k hk).2, hv, hh⟩
end Go.Proofs.YtegnfkbmlalkeaaGreat.cr
namespace Go.Proofs.YtegnfkbmlalkeaaGreat.cr
open nums se cf lg
theorem mem_listTo {s k j : Nat} (h1 : 1 ≤ j) (hj : j ≤ k) (hb : s.testBit j = true) : (j : Int) ∈ listTo s k := by
 induction k with
 | zero => omega
 | succ k ih =>
  simp only [listTo]
  by_cases e : j = k + 1
  · subst e; rw [if_pos hb]; simp
  ·
   have := ih (by omega)
   split
   · exact List.mem_append_left _ this
   · exact this
theorem list_iff {s : Nat} {n : Int} : n ∈ listF s ↔ hasF s n = true := by
 constructor
 ·
  intro h
  obtain ⟨j, rfl, h1, h9, hb⟩ := listTo_mem h (by omega)
  rw [hasF_node h1 h9]; exact hb
 ·
  intro h
  obtain ⟨k, rfl, h1, h9⟩ := nodeB_nat (has_node h)
  rw [hasF_node h1 h9] at h
  exact mem_listTo h1 h9 h
theorem list_some {s : Nat} (h0 : s ≠ 0) (hm : se.mayF s = true) : listF s ≠ [] := by
 intro h
 have h2 := ofF_list s
 rw [h] at h2
 have h3 := may_iff.1 hm
 rw [h3] at h2
 exact h0 (Option.some.inj h2).symm
theorem leastL_spec (c : CoL) : ∀ (l : List Int) (s : Int), (∀ v ∈ l, 0 ≤ mtF c v) →
  ((0 ≤ s ∨ l ≠ []) → 0 ≤ leastL c s l) ∧ (0 ≤ s → leastL c s l ≤ s) ∧ (∀ v ∈ l, leastL c s l ≤ mtF c v) ∧ (leastL c s l = s ∨ ∃ v ∈ l, leastL c s l = mtF c v)
 | [], s, _ => ⟨fun h => h.elim id (fun e => absurd rfl e), fun _ => Int.le_refl _, (fun v h => by cases h), .inl rfl⟩
 | v :: l, s, h => by
  have hv := h v (List.mem_cons_self ..)
  show ((0 ≤ s ∨ v :: l ≠ []) → 0 ≤ leastL c (if s < 0 ∨ mtF c v < s then mtF c v else s) l) ∧ (0 ≤ s → leastL c (if s < 0 ∨ mtF c v < s then mtF c v else s) l ≤ s) ∧ (∀ u ∈ v :: l, leastL c (if s < 0 ∨ mtF c v < s then mtF c v else s) l ≤ mtF c u) ∧ (leastL c (if s < 0 ∨ mtF c v < s then mtF c v else s) l = s ∨ ∃ u ∈ v :: l, leastL c (if s < 0 ∨ mtF c v < s then mtF c v else s) l = mtF c u)
  obtain ⟨s', hs'⟩ : ∃ q, (if s < 0 ∨ mtF c v < s then mtF c v else s) = q := ⟨_, rfl⟩
  have h0 : 0 ≤ s' ∧ s' ≤ mtF c v ∧ (0 ≤ s → s' ≤ s) ∧ (s' = s ∨ s' = mtF c v) := by
   rw [← hs']; split <;> omega
  rw [hs']
  obtain ⟨i1, i2, i3, i4⟩ := leastL_spec c l s' (fun u hu => h u (List.mem_cons_of_mem _ hu))
  refine ⟨fun _ => i1 (.inl h0.1), fun hs => Int.le_trans (i2 h0.1) (h0.2.2.1 hs), fun u hu => ?_, ?_⟩
  ·
   rcases List.mem_cons.1 hu with rfl | hu
   · exact Int.le_trans (i2 h0.1) h0.2.1
   · exact i3 u hu
  ·
   rcases i4 with e | ⟨u, hu, e⟩
   ·
    rcases h0.2.2.2 with e2 | e2
    · exact .inl (e.trans e2)
    · exact .inr ⟨v, List.mem_cons_self .., e.trans e2⟩
   · exact .inr ⟨u, List.mem_cons_of_mem _ hu, e⟩
def lmTo (c : CoL) (j : JtL) : Nat → Int
 | 0 => lastF c.lg
 | k + 1 => if ledF j ((k + 1 : Nat) : Int) = true then min (lmTo c j k) (mtF c ((k + 1 : Nat) : Int)) else lmTo c j k
theorem lm_spec (c : CoL) (j : JtL) : ∀ k : Nat, lmTo c j k ≤ lastF c.lg ∧ (∀ i : Nat, 1 ≤ i → i ≤ k → ledF j (i : Int) = true → lmTo c j k ≤ mtF c (i : Int)) ∧ (lmTo c j k = lastF c.lg ∨ ∃ i : Nat, ledF j (i : Int) = true ∧ lmTo c j k = mtF c (i : Int))
 | 0 => ⟨Int.le_refl _, fun i h1 h2 => by omega, .inl rfl⟩
 | k + 1 => by
  obtain ⟨i1, i2, i3⟩ := lm_spec c j k
  by_cases hl : ledF j ((k + 1 : Nat) : Int) = true
  ·
   have e : lmTo c j (k + 1) = min (lmTo c j k) (mtF c ((k + 1 : Nat) : Int)) := if_pos hl
   rw [e]
   refine ⟨by omega, fun i h1 h2 h3 => ?_, ?_⟩
   ·
    by_cases he : i = k + 1
    · subst he; omega
    · have := i2 i h1 (by omega) h3; omega
   ·
    by_cases hm : lmTo c j k ≤ mtF c ((k + 1 : Nat) : Int)
    · rw [show min (lmTo c j k) (mtF c ((k + 1 : Nat) : Int)) = lmTo c j k by omega]; exact i3
    · exact .inr ⟨k + 1, hl, by omega⟩
  ·
   have e : lmTo c j (k + 1) = lmTo c j k := if_neg hl
   rw [e]
   refine ⟨i1, fun i h1 h2 h3 => ?_, i3⟩
   by_cases he : i = k + 1
   · subst he; exact absurd h3 hl
   · exact i2 i h1 (by omega) h3
theorem led_list {j : JtL} {n : Int} : ledF j n = true ↔ n ∈ listF j.a.v ∨ (j.two = true ∧ n ∈ listF j.b.v) := by
 unfold ledF unF
 cases ht : j.two
 · simp [list_iff]
 · simp [has_or, list_iff]
def Mt (c : CoL) : Prop := ∀ k : Nat, k < 10 → 0 ≤ c.mt k ∧ c.mt k ≤ lastF c.lg
theorem leastC_lm {c : CoL} (hj : mayJ (conC c) = true) (hm : Mt c) : leastC c = lmTo c (conC c) 9 := by
 have hn : ∀ n : Int, ledF (conC c) n = true → 1 ≤ n ∧ n ≤ 9 := fun n h => by
  obtain ⟨k, rfl, h1, h9⟩ := nodeB_nat (has_node h)
  omega
 have hmt : ∀ n : Int, ledF (conC c) n = true → 0 ≤ mtF c n ∧ mtF c n ≤ lastF c.lg := fun n h => by
  have := hn n h
  exact hm n.toNat (by omega)
 have hva := list_some (may_parts (mayJ_a hj)).2.2.2.1 (may_parts (mayJ_a hj)).1
 obtain ⟨n0, hn0⟩ := List.exists_mem_of_ne_nil _ hva
 have hl0 : ledF (conC c) n0 = true := led_list.2 (.inl hn0)
 have hA : (∀ n, ledF (conC c) n = true → leastC c ≤ mtF c n) ∧ ∃ n, ledF (conC c) n = true ∧ leastC c = mtF c n := by
  have ha := leastL_spec c (listF (conC c).a.v) (-1) (fun v hv => (hmt v (led_list.2 (.inl hv))).1)
  obtain ⟨a1, a2, a3, a4⟩ := ha
  have hp := a1 (.inr hva)
  cases ht : (conC c).two
  ·
   have e : leastC c = leastL c (-1) (listF (conC c).a.v) := by unfold leastC twoF; rw [ht]; rfl
   rw [e]
   refine ⟨fun n h => ?_, ?_⟩
   ·
    rcases led_list.1 h with h | h
    · exact a3 n h
    · rw [ht] at h; exact absurd h.1 (by decide)
   ·
    rcases a4 with h | ⟨v, hv, h⟩
    · omega
    · exact ⟨v, led_list.2 (.inl hv), h⟩
  ·
   have e : leastC c = leastL c (leastL c (-1) (listF (conC c).a.v)) (listF (conC c).b.v) := by unfold leastC twoF; rw [ht]; rfl
   rw [e]
   obtain ⟨b1, b2, b3, b4⟩ := leastL_spec c (listF (conC c).b.v) (leastL c (-1) (listF (conC c).a.v)) (fun v hv => (hmt v (led_list.2 (.inr ⟨ht, hv⟩))).1)
   refine ⟨fun n h => ?_, ?_⟩
   ·
    rcases led_list.1 h with h | h
    · exact Int.le_trans (b2 hp) (a3 n h)
    · exact b3 n h.2
   ·
    rcases b4 with h | ⟨v, hv, h⟩
    ·
     rcases a4 with h2 | ⟨v, hv, h2⟩
     · omega
     · exact ⟨v, led_list.2 (.inl hv), h.trans h2⟩
    · exact ⟨v, led_list.2 (.inr ⟨ht, hv⟩), h⟩
 obtain ⟨l1, l2, l3⟩ := lm_spec c (conC c) 9
 have l2' : ∀ n, ledF (conC c) n = true → lmTo c (conC c) 9 ≤ mtF c n := fun n h => by
  have h9 := hn n h
  have := l2 n.toNat (by omega) (by omega) (by rw [Int.toNat_of_nonneg (by omega)]; exact h)
  rwa [Int.toNat_of_nonneg (by omega)] at this
 obtain ⟨n1, hl1, e1⟩ := hA.2
 apply Int.le_antisymm
 ·
  rcases l3 with e | ⟨i, hi, e⟩
  · rw [e, e1]; exact (hmt n1 hl1).2
  · rw [e]; exact hA.1 _ hi
 · rw [e1]; exact l2' n1 hl1
end Go.Proofs.YtegnfkbmlalkeaaGreat.cr
namespace Go.Proofs.YtegnfkbmlalkeaaGreat.cr
open nums se cf lg
theorem seek_in (p : Int → Bool) (lo : Int) : ∀ k, lo ≤ seekF p lo k ∧ seekF p lo k ≤ lo + k
 | 0 => by simp [seekF]
 | k + 1 => by
  have := seek_in p lo k
  unfold seekF
  split <;> omega
theorem leastL_up {c : CoL} {M : Int} (hm : ∀ k : Nat, k < 10 → c.mt k ≤ M) : ∀ (l : List Int) (s : Int), s ≤ M → (∀ v ∈ l, v.toNat < 10) → leastL c s l ≤ M
 | [], s, h, _ => h
 | v :: l, s, h, hl => by
  show leastL c (if s < 0 ∨ mtF c v < s then mtF c v else s) l ≤ M
  refine leastL_up hm l _ ?_ (fun x hx => hl x (List.mem_cons_of_mem _ hx))
  split
  · exact hm _ (hl v List.mem_cons_self)
  · exact h
theorem least_up {c : CoL} {M : Int} (hm : ∀ k : Nat, k < 10 → c.mt k ≤ M) (h0 : -1 ≤ M) : leastC c ≤ M := by
 have hl : ∀ s, ∀ v ∈ listF s, v.toNat < 10 := fun s v hv => by
  obtain ⟨j, rfl, _, h2, _⟩ := listTo_mem hv (Nat.le_refl _)
  omega
 unfold leastC twoF
 split
 · exact leastL_up hm _ _ (leastL_up hm _ _ h0 (hl _)) (hl _)
 · exact leastL_up hm _ _ h0 (hl _)
structure Fr (c : CoL) (id : Int) (j : JtL) (k : Nat) : Prop where
 id : c.id = id
 b : c.lg.b = 0
 t : c.lg.t = 0
 j : c.lg.j = j
 len : c.lg.es.length ≤ k
 kd : ∀ x ∈ c.lg.es, x.k ≠ 2
 cm : 0 ≤ c.cm ∧ c.cm ≤ (c.lg.es.length : Int)
 ro : 0 ≤ c.ro ∧ c.ro ≤ 2
 tm : 0 ≤ c.tm ∧ c.tm ≤ k
 vo : 0 ≤ c.vo ∧ c.vo ≤ 9
 le : 0 ≤ c.le ∧ c.le ≤ 9
 wa : 0 ≤ c.wa ∧ c.wa ≤ k
 sf : 0 ≤ c.sf ∧ c.sf ≤ (c.lg.es.length : Int)
 nx : ∀ i : Nat, 0 ≤ c.nx i ∧ c.nx i ≤ (c.lg.es.length : Int) + 1
 mt : ∀ i : Nat, 0 ≤ c.mt i ∧ c.mt i ≤ (c.lg.es.length : Int)
 vs : c.vs < 65536
 he : c.he < 65536
theorem confF_none : ∀ {es : List EnL} {j : JtL}, (∀ x ∈ es, x.k ≠ 2) → confF j es = j
 | [], j, _ => rfl
 | e :: es, j, h => by
  show confF (if e.k = 2 then e.j else j) es = j
  rw [if_neg (h e List.mem_cons_self)]
  exact confF_none (fun x hx => h x (List.mem_cons_of_mem _ hx))
theorem cnoL_none {b : Int} {es : List EnL} (h : ∀ x ∈ es, x.k ≠ 2) : ∀ k, cnoL b es k = b
 | 0 => rfl
 | k + 1 => by
  unfold cnoL
  have : ¬ (es[k]?).map (·.k) = some 2 := by
   intro e
   cases hx : es[k]? with
   | none => rw [hx] at e; cases e
   | some x =>
    rw [hx] at e
    exact h x (List.mem_of_getElem? hx) (Option.some.inj e)
  rw [if_neg this]
  exact cnoL_none h k
def ldC (c : CoL) : CoL := { c with ro := 2, le := c.id, wa := 0, he := 0, nx := fun _ => lastF c.lg + 1, mt := z10 }
theorem win_ld (c : CoL) : winC c = couC (pushC (ldC c) zE) := rfl
section
variable {c : CoL} {id : Int} {j : JtL} {k : Nat}
theorem Fr.last (h : Fr c id j k) : lastF c.lg = (c.lg.es.length : Int) := by unfold lastF; rw [h.b]; omega
theorem Fr.conf (h : Fr c id j k) : conC c = j := by unfold conC; rw [h.j]; exact confF_none h.kd
theorem Fr.at_ (h : Fr c id j k) : atC c.lg = 0 := by unfold atC cnoF; rw [cnoL_none h.kd]; exact h.b
theorem Fr.good (h : Fr c id j k) (hk : k ≤ 100000) (hi : 1 ≤ id ∧ id ≤ 9) (hj : mayJ j = true) : GoodK c := by
 have hl := h.last
 have hn := h.len
 have hb := h.b
 have hc := h.cm
 have hid := h.id
 refine ⟨by omega, ⟨⟨by omega, by omega, by omega⟩, by omega, by omega, by omega, by rw [h.conf]; exact mayJ_ok hj, by rw [h.conf]; exact hj, by omega, by omega⟩, by omega, h.ro, ?_, h.vo, h.le, ?_, ?_, fun i _ => ?_, fun i _ => ?_, h.vs, h.he⟩
 · have := h.tm; omega
 · have := h.wa; omega
 · have := h.sf; omega
 · have := h.nx i; omega
 · have := h.mt i; omega
theorem Fr.more (h : Fr c id j k) {m : Nat} (hm : k ≤ m) : Fr c id j m :=
 ⟨h.id, h.b, h.t, h.j, Nat.le_trans h.len hm, h.kd, h.cm, h.ro, ⟨h.tm.1, by have := h.tm; omega⟩, h.vo, h.le, ⟨h.wa.1, by have := h.wa; omega⟩, h.sf, h.nx, h.mt, h.vs, h.he⟩
theorem Fr.new (hi : 1 ≤ id ∧ id ≤ 9) : Fr (newC id j) id j 0 :=
 ⟨rfl, rfl, rfl, rfl, Nat.le_refl _, (fun x hx => by cases hx), ⟨Int.le_refl _, Int.le_refl _⟩, ⟨Int.le_refl _, by show (0 : Int) ≤ 2; omega⟩, ⟨Int.le_refl _, Int.le_refl _⟩, ⟨Int.le_refl _, by show (0 : Int) ≤ 9; omega⟩, ⟨Int.le_refl _, by show (0 : Int) ≤ 9; omega⟩, ⟨Int.le_refl _, Int.le_refl _⟩, ⟨Int.le_refl _, Int.le_refl _⟩, fun i => ⟨Int.le_refl _, by show (0 : Int) ≤ 0 + 1; omega⟩, fun i => ⟨Int.le_refl _, Int.le_refl _⟩, by show 0 < 65536; omega, by show 0 < 65536; omega⟩
theorem Fr.wait (h : Fr c id j k) : Fr { c with wa := c.wa + 1 } id j (k + 1) :=
 ⟨h.id, h.b, h.t, h.j, Nat.le_trans h.len (Nat.le_succ _), h.kd, h.cm, h.ro, ⟨h.tm.1, by have := h.tm; show c.tm ≤ _; omega⟩, h.vo, h.le, ⟨by have := h.wa; show 0 ≤ c.wa + 1; omega, by have := h.wa; show c.wa + 1 ≤ _; omega⟩, h.sf, h.nx, h.mt, h.vs, h.he⟩
theorem Fr.yield (h : Fr c id j k) : Fr (yieC c) id j k :=
 ⟨h.id, h.b, h.t, h.j, h.len, h.kd, h.cm, ⟨Int.le_refl _, by show (0 : Int) ≤ 2; omega⟩, h.tm, h.vo, ⟨Int.le_refl _, by show (0 : Int) ≤ 9; omega⟩, ⟨Int.le_refl _, by show (0 : Int) ≤ k; omega⟩, h.sf, h.nx, h.mt, h.vs, h.he⟩
theorem Fr.calm (h : Fr c id j k) : Fr { c with he := 0, wa := 0 } id j k :=
 ⟨h.id, h.b, h.t, h.j, h.len, h.kd, h.cm, h.ro, h.tm, h.vo, h.le, ⟨Int.le_refl _, by show (0 : Int) ≤ k; omega⟩, h.sf, h.nx, h.mt, h.vs, by show 0 < 65536; omega⟩
theorem Fr.stand (h : Fr c id j k) (hi : 1 ≤ id ∧ id ≤ 9) (ht : c.tm + 1 ≤ k) : Fr (standC c) id j k :=
 ⟨h.id, h.b, h.t, h.j, h.len, h.kd, h.cm, ⟨by show (0 : Int) ≤ 1; omega, by show (1 : Int) ≤ 2; omega⟩, ⟨by have := h.tm; show 0 ≤ c.tm + 1; omega, ht⟩, ⟨by have := h.id; show 0 ≤ c.id; omega, by have := h.id; show c.id ≤ 9; omega⟩, ⟨Int.le_refl _, by show (0 : Int) ≤ 9; omega⟩, ⟨Int.le_refl _, by show (0 : Int) ≤ k; omega⟩, h.sf, h.nx, h.mt, withF_lt _ (by omega), h.he⟩
theorem Fr.push (h : Fr c id j k) (x : EnL) (hx : x.k ≠ 2) : Fr (pushC c x) id j (k + 1) := by
 have hl : (pushC c x).lg.es.length = c.lg.es.length + 1 := by show (c.lg.es ++ [_]).length = _; rw [List.length_append]; rfl
 have hla := h.last
 refine ⟨h.id, h.b, h.t, h.j, by rw [hl]; have := h.len; omega, ?_, ⟨h.cm.1, ?_⟩, h.ro, ⟨h.tm.1, ?_⟩, h.vo, h.le, ⟨h.wa.1, ?_⟩, ⟨h.sf.1, ?_⟩, fun i => ⟨(h.nx i).1, ?_⟩, fun i => ?_, h.vs, h.he⟩
 ·
  intro y hy
  rcases List.mem_append.1 hy with hy | hy
  · exact h.kd y hy
  · rw [List.mem_singleton] at hy; subst hy; exact hx
 · rw [hl]; have := h.cm.2; show c.cm ≤ _; omega
 · have := h.tm; show c.tm ≤ _; omega
 · have := h.wa; show c.wa ≤ _; omega
 · rw [hl]; have := h.sf.2; show c.sf ≤ _; omega
 · rw [hl]; have := (h.nx i).2; show c.nx i ≤ _; omega
 ·
  rw [hl]
  show 0 ≤ upd c.mt c.id.toNat (lastF c.lg + 1) i ∧ upd c.mt c.id.toNat (lastF c.lg + 1) i ≤ _
  unfold upd
  have := h.mt i
  split <;> omega
theorem Fr.count (h : Fr c id j k) : Fr (cntC c) id j k := by
 have hs := seek_in (cmtP c) c.cm (lastF c.lg - c.cm).toNat
 have hla := h.last
 have hc := h.cm
 have hle := least_up (c := c) (M := (c.lg.es.length : Int)) (fun i _ => (h.mt i).2) (by omega)
 exact ⟨h.id, h.b, h.t, h.j, h.len, h.kd, ⟨by show 0 ≤ seekF (cmtP c) c.cm (lastF c.lg - c.cm).toNat; omega, by show seekF (cmtP c) c.cm (lastF c.lg - c.cm).toNat ≤ (c.lg.es.length : Int); omega⟩, h.ro, h.tm, h.vo, h.le, h.wa, ⟨by have := h.sf; show 0 ≤ max c.sf (leastC c); omega, by have := h.sf; show max c.sf (leastC c) ≤ (c.lg.es.length : Int); omega⟩, h.nx, h.mt, h.vs, h.he⟩
theorem Fr.end_ (h : Fr c id j k) : Fr (endC c) id j k := by
 unfold endC
 split
 ·
  split
  · exact h
  · exact h.yield
 · exact h
theorem Fr.cou (h : Fr c id j k) (hj : j.two = false) : couC c = endC (cntC c) := by
 unfold couC
 dsimp only
 rw [if_neg]
 rw [h.count.conf, hj]
 rintro ⟨_, h2⟩
 cases h2
theorem Fr.coun (h : Fr c id j k) (hj : j.two = false) : Fr (couC c) id j k := by rw [h.cou hj]; exact h.count.end_
theorem Fr.lead (h : Fr c id j k) (hi : 1 ≤ id ∧ id ≤ 9) : Fr (ldC c) id j k := by
 have hla := h.last
 have hid := h.id
 exact ⟨h.id, h.b, h.t, h.j, h.len, h.kd, h.cm, ⟨by show (0 : Int) ≤ 2; omega, by show (2 : Int) ≤ 2; omega⟩, h.tm, h.vo, ⟨by show 0 ≤ c.id; omega, by show c.id ≤ 9; omega⟩, ⟨Int.le_refl _, by show (0 : Int) ≤ k; omega⟩, h.sf, fun i => ⟨by show 0 ≤ lastF c.lg + 1; omega, by show lastF c.lg + 1 ≤ (c.lg.es.length : Int) + 1; omega⟩, fun i => ⟨Int.le_refl _, by show (0 : Int) ≤ (c.lg.es.length : Int); omega⟩, h.vs, by show 0 < 65536; omega⟩
theorem Fr.win (h : Fr c id j k) (hi : 1 ≤ id ∧ id ≤ 9) (hj : j.two = false) : Fr (winC c) id j (k + 1) :=
 ((h.lead hi).push zE (by show (0 : Int) ≠ 2; omega)).coun hj
theorem end_same (d : CoL) : (endC d).lg = d.lg ∧ (endC d).tm = d.tm ∧ (d.wa = 0 → (endC d).wa = 0) := by
 unfold endC
 split
 ·
  split
  · exact ⟨rfl, rfl, id⟩
  · exact ⟨rfl, rfl, fun _ => rfl⟩
 · exact ⟨rfl, rfl, id⟩
theorem Fr.won (h : Fr c id j k) (hi : 1 ≤ id ∧ id ≤ 9) (hj : j.two = false) : (winC c).lg.es.length = c.lg.es.length + 1 ∧ (winC c).tm = c.tm ∧ (winC c).wa = 0 := by
 rw [win_ld, ((h.lead hi).push zE (by show (0 : Int) ≠ 2; omega)).cou hj]
 obtain ⟨h1, h2, h3⟩ := end_same (cntC (pushC (ldC c) zE))
 rw [h1, h2, h3 rfl]
 refine ⟨?_, rfl, rfl⟩
 show (c.lg.es ++ [_]).length = _
 rw [List.length_append]; rfl
theorem Fr.tick (h : Fr c id j k) (hi : 1 ≤ id ∧ id ≤ 9) (hj : j.two = false) : Fr (tickF c).1 id j (k + 1) := by
 have hw := h.wait
 unfold tickF
 dsimp only
 split
 ·
  split
  ·
   split
   · exact hw.calm
   · exact hw.yield
  · exact hw
 ·
  split
  ·
   have hs : Fr (standC { c with wa := c.wa + 1 }) id j (k + 1) := hw.stand hi (by have := h.tm; show c.tm + 1 ≤ _; omega)
   split
   ·
    have hw2 := hs.win hi hj
    obtain ⟨hlen, htm, hwa⟩ := hs.won hi hj
    exact ⟨hw2.id, hw2.b, hw2.t, hw2.j, by show (winC (standC { c with wa := c.wa + 1 })).lg.es.length ≤ _; rw [hlen]; have := h.len; show c.lg.es.length + 1 ≤ _; omega, hw2.kd, hw2.cm, hw2.ro, ⟨hw2.tm.1, by show (winC (standC { c with wa := c.wa + 1 })).tm ≤ _; rw [htm]; have := h.tm; show c.tm + 1 ≤ _; omega⟩, hw2.vo, hw2.le, ⟨hw2.wa.1, by show (winC (standC { c with wa := c.wa + 1 })).wa ≤ _; rw [hwa]; omega⟩, hw2.sf, hw2.nx, hw2.mt, hw2.vs, hw2.he⟩
   · exact hs
  · exact hw
end
end Go.Proofs.YtegnfkbmlalkeaaGreat.cr
namespace Go.Proofs.YtegnfkbmlalkeaaGreat.cr
open nums se cf lg
def threeC : CfL := ⟨14, 0, 0, 2, 2⟩
def threeJ : JtL := ⟨threeC, zeroC, false⟩
def bT : Nat → CoL
 | 0 => newC 1 threeJ
 | k + 1 => (tickF (bT k)).1
def bO : Nat → Nat
 | 0 => 0
 | k + 1 => (tickF (bT k)).2.length
def votM : MsL := { zM with k := 2, f := 2, t := 1, m := 1, y := true }
theorem three_may : mayJ threeJ = true := by decide
theorem bT_fr : ∀ k, Fr (bT k) 1 threeJ k
 | 0 => Fr.new (by omega)
 | k + 1 => (bT_fr k).tick (by omega) rfl
theorem bT_good {k : Nat} (hk : k ≤ 16) : GoodK (bT k) := (bT_fr k).good (by omega) (by omega) three_may
theorem bO_le : ∀ k, k ≤ 16 → bO k ≤ 2 := by decide
theorem bT_end : (bT 16).ro = 1 ∧ bO 16 = 2 ∧ (stepF (bT 16) votM).1.ro = 2 ∧ (stepF (bT 16) votM).2.length = 2 := by decide
theorem bT_deaf : deafB (bT 16) votM = false ∧ votM.m = (bT 16).tm := by decide
end Go.Proofs.YtegnfkbmlalkeaaGreat.cr
namespace Go.Proofs.YtegnfkbmlalkeaaGreat.cr
open nums se cf lg
def TV (c d : CoL) : Prop := d.tm = c.tm ∧ d.vo = c.vo
theorem TV.trans {a b c : CoL} (h : TV a b) (g : TV b c) : TV a c := ⟨g.1.trans h.1, g.2.trans h.2⟩
theorem all_few (c : CoL) : (allF c).length ≤ 9 := by
 unfold allF
 rw [List.length_map]
 exact Nat.le_trans (List.length_filter_le _ _) (listTo_le _ 9)
end Go.Proofs.YtegnfkbmlalkeaaGreat.cr
namespace Go.Proofs.YtegnfkbmlalkeaaGreat.cr
open nums se cf lg
theorem send_es (c : CoL) (n : Int) : (sendF c n).es.length ≤ 8 := by
 unfold sendF sayF
 split
 · show ([] : List EnL).length ≤ 8; simp
 ·
  show (sliceF c.lg (nxF c n) 8).length ≤ 8
  unfold sliceF
  rw [List.length_take]
  have : (8 : Int).toNat = 8 := rfl
  omega
theorem all_es (c : CoL) : ∀ m ∈ allF c, m.es.length ≤ 8 := by
 intro m hm
 unfold allF at hm
 obtain ⟨n, _, rfl⟩ := List.mem_map.1 hm
 exact send_es c n
end Go.Proofs.YtegnfkbmlalkeaaGreat.cr
namespace Go.Proofs.YtegnfkbmlalkeaaGreat.cr
open nums se cf lg
structure OkC (c : CoL) (N : Nat) : Prop where
 j : c.lg.j.ok
 es : ∀ x ∈ c.lg.es, x.j.ok
 len : c.lg.es.length ≤ N
 vs : c.vs < 65536
 he : c.he < 65536
theorem confF_ok : ∀ {es : List EnL} {j : JtL}, j.ok → (∀ x ∈ es, x.j.ok) → (confF j es).ok
 | [], j, h, _ => h
 | e :: es, j, h, he => by
  show (confF (if e.k = 2 then e.j else j) es).ok
  refine confF_ok ?_ (fun x hx => he x (List.mem_cons_of_mem _ hx))
  split
  · exact he e List.mem_cons_self
  · exact h
theorem zeroJ_fit : zeroJ.ok := ⟨zero_ok, zero_ok⟩
section
variable {c : CoL} {N M : Nat}
theorem OkC.more (h : OkC c N) (hm : N ≤ M) : OkC c M := ⟨h.j, h.es, Nat.le_trans h.len hm, h.vs, h.he⟩
theorem OkC.conf (h : OkC c N) : (conC c).ok := confF_ok h.j h.es
theorem OkC.push (h : OkC c N) (x : EnL) (hx : x.j.ok) : OkC (pushC c x) (N + 1) := by
 refine ⟨h.j, fun y hy => ?_, ?_, h.vs, h.he⟩
 ·
  rcases List.mem_append.1 hy with hy | hy
  · exact h.es y hy
  · rw [List.mem_singleton] at hy; subst hy; exact hx
 ·
  show (c.lg.es ++ [_]).length ≤ _
  rw [List.length_append]
  have := h.len
  simp; omega
theorem OkC.cnt (h : OkC c N) : OkC (cntC c) N := ⟨h.j, h.es, h.len, h.vs, h.he⟩
theorem OkC.end_ (h : OkC c N) : OkC (endC c) N := by
 unfold endC
 split
 ·
  split
  · exact h
  · exact ⟨h.j, h.es, h.len, h.vs, h.he⟩
 · exact h
theorem OkC.cou (h : OkC c N) : OkC (couC c) (N + 1) := by
 unfold couC
 dsimp only
 split
 · exact ((h.cnt.push _ (final_ok h.cnt.conf)).cnt).end_
 · exact h.cnt.end_.more (Nat.le_succ _)
theorem OkC.win (h : OkC c N) : OkC (winC c) (N + 2) :=
 OkC.cou (c := pushC { c with ro := 2, le := c.id, wa := 0, he := 0, nx := fun _ => lastF c.lg + 1, mt := z10 } zE) (OkC.push (c := { c with ro := 2, le := c.id, wa := 0, he := 0, nx := fun _ => lastF c.lg + 1, mt := z10 }) ⟨h.j, h.es, h.len, h.vs, by show 0 < 65536; omega⟩ zE zeroJ_fit)
theorem OkC.tick (h : OkC c N) : OkC (tickF c).1 (N + 2) := by
 have h0 : OkC { c with wa := c.wa + 1 } (N + 2) := ⟨h.j, h.es, by show c.lg.es.length ≤ _; have := h.len; omega, h.vs, h.he⟩
 unfold tickF
 dsimp only
 split
 ·
  split
  ·
   split
   · exact ⟨h0.j, h0.es, h0.len, h0.vs, by show 0 < 65536; omega⟩
   · exact ⟨h0.j, h0.es, h0.len, h0.vs, h0.he⟩
  · exact h0
 ·
  split
  ·
   split
   · exact OkC.win (c := standC { c with wa := c.wa + 1 }) ⟨h.j, h.es, h.len, withF_lt _ (by omega), h.he⟩
   · exact ⟨h0.j, h0.es, h0.len, withF_lt _ (by omega), h0.he⟩
  · exact h0
theorem OkC.good (h : OkC c N) (hm : mayK c = true) (hN : N ≤ 700000) : GoodK c := good_may hm (Nat.le_trans h.len hN) h.vs h.he
end
end Go.Proofs.YtegnfkbmlalkeaaGreat.cr
namespace Go.Proofs.YtegnfkbmlalkeaaGreat.kit
open Go
variable {P : Program} {ops : Array Oper} {md : Region.Mode} {Q : Exit → Act → World → Prop} {S : World → Prop}
def skOk (md : Region.Mode) (ops : Array Oper) : List (Nat × Nat) → Array Bool → Array Value → Bool
 | [], _, _ => true
 | (i, d) :: l, b, t => (match ops[i]? with
  | some o => (match o.dst with | some d' => Nat.beq d' d | none => false) && (Region.free md ops b i && ((Region.ready md ops b).contains i && (!(Region.wanted o (yielded ops t)) && skOk md ops l (b.setIfInBounds i true) (t.setIfInBounds d undef))))
  | none => false)
theorem skips0 (hs : Region.noSelect ops = true) (hQ : ∀ c (a : Act) (d : Nat) w, Q (.panic c) (a.put (some d) undef) w → Q (.panic c) a w) {w : World} (hS : S w) : ∀ (l : List (Nat × Nat)) {fuel : Nat} {listed : Array Bool} {a : Act}, skOk md ops l listed a.tmps = true →
  wpAnyH P md ops Q S fuel (l.foldl (fun b x => b.setIfInBounds x.1 true) listed) { a with tmps := l.foldl (fun t x => t.setIfInBounds x.2 undef) a.tmps } w → wpAnyH P md ops Q S (fuel + l.length) listed a w
 | [], _, _, _, _, h => h
 | (i, d) :: l, fuel, listed, a, hc, h => by
  unfold skOk at hc
  cases hi : ops[i]? with
  | none => rw [hi] at hc; cases hc
  | some o =>
   rw [hi] at hc
   simp only [Bool.and_eq_true, Bool.not_eq_true'] at hc
   obtain ⟨hd, hf, hr, hw, hl⟩ := hc
   have hdst : o.dst = some d := by
    cases hd' : o.dst with
    | none => rw [hd'] at hd; cases hd
    | some d' => rw [hd'] at hd; exact congrArg some (Nat.eq_of_beq_eq_true hd)
   have hp : a.put o.dst undef = { a with tmps := a.tmps.setIfInBounds d undef } := by rw [hdst]; rfl
   refine wpAnyH_take hi hs hf hr (fun c a w => by rw [hdst]; exact hQ c a d w) (Or.inr ⟨hw, rfl⟩) hS ?_
   rw [hp]
   exact skips0 hs hQ hS l (a := { a with tmps := a.tmps.setIfInBounds d undef }) hl h
theorem skips (l : List (Nat × Nat)) {fuel f2 : Nat} {listed : Array Bool} {t : Array Value} {df : List Deferred} {w : World} (h : wpAnyH P md ops Q S fuel (l.foldl (fun b x => b.setIfInBounds x.1 true) listed) { tmps := l.foldl (fun t x => t.setIfInBounds x.2 undef) t, defers := df } w)
  (hf : f2 = fuel + l.length := by rfl) (hs : Region.noSelect ops = true := by kernel_rfl) (hc : skOk md ops l listed t = true := by kernel_rfl) (hQ : ∀ c (a : Act) (d : Nat) w, Q (.panic c) (a.put (some d) undef) w → Q (.panic c) a w := by exact fun _ _ _ _ h => h) (hS : S w := by assumption) : wpAnyH P md ops Q S f2 listed { tmps := t, defers := df } w := by
 subst hf
 exact skips0 hs hQ hS l (a := { tmps := t, defers := df }) hc h
end Go.Proofs.YtegnfkbmlalkeaaGreat.kit
namespace Go.Proofs.YtegnfkbmlalkeaaGreat.frame
open Go.ChangeShapes Go.WideShapes Go.ChangeAt Go.RowKit kit nums
theorem gather {α : Type} {P : Nat → α → Prop} : ∀ n : Nat, (∀ i, i < n → ∃ x, P i x) → ∃ L : List α, L.length = n ∧ ∀ i x, L[i]? = some x → P i x
 | 0, _ => ⟨[], rfl, fun i x h => by simp at h⟩
 | n + 1, h => by
  obtain ⟨L, hl, hL⟩ := gather n (fun i hi => h i (by omega))
  obtain ⟨x, hx⟩ := h n (by omega)
  refine ⟨L ++ [x], by simp [hl], fun i y hy => ?_⟩
  by_cases hi : i < n
  · rw [List.getElem?_append_left (by omega)] at hy; exact hL i y hy
  ·
   have hi2 : i < (L ++ [x]).length := (List.getElem?_eq_some_iff.1 hy).1
   simp [hl] at hi2
   obtain rfl : i = n := by omega
   rw [List.getElem?_append_right (by omega), hl, Nat.sub_self] at hy
   simp at hy
   subst hy; exact hx
end Go.Proofs.YtegnfkbmlalkeaaGreat.frame
namespace Go.Proofs.YtegnfkbmlalkeaaGreat.frame
open Go Go.ChangeShapes Go.WideShapes Go.ChangeAt Go.RowKit kit nums cf
theorem long3 {α : Type} (l : List α) (h : l.length = 3) : ∃ a0 a1 a2, l = [a0, a1, a2] := by
 match l, h with
 | [a0, a1, a2], _ => exact ⟨a0, a1, a2, rfl⟩
theorem long5 {α : Type} (l : List α) (h : l.length = 5) : ∃ a0 a1 a2 a3 a4, l = [a0, a1, a2, a3, a4] := by
 match l, h with
 | [a0, a1, a2, a3, a4], _ => exact ⟨a0, a1, a2, a3, a4, rfl⟩
theorem long11 {α : Type} (l : List α) (h : l.length = 11) : ∃ a0 a1 a2 a3 a4 a5 a6 a7 a8 a9 a10, l = [a0, a1, a2, a3, a4, a5, a6, a7, a8, a9, a10] := by
 match l, h with
 | [a0, a1, a2, a3, a4, a5, a6, a7, a8, a9, a10], _ => exact ⟨a0, a1, a2, a3, a4, a5, a6, a7, a8, a9, a10, rfl⟩
theorem boolc_of_trod {H : Type} {enc : TypeId × Value → H} {W : World} {n : Nat} {v : Value} {y : DataW H × List MemPlace} (h : DataW.trod enc Tryz.prog W 0 (fun _ => true) true n 4 [v] = some y) : ∃ z, v = .bool z := by
 obtain ⟨z, h1, _⟩ := DataW.trod_bool Tryz.underlying4 h
 simp at h1
 exact ⟨z, h1⟩
theorem intc_of_trod {H : Type} {enc : TypeId × Value → H} {W : World} {n : Nat} {v : Value} {y : DataW H × List MemPlace} (h : DataW.trod enc Tryz.prog W 0 (fun _ => true) true n 3 [v] = some y) : ∃ z, v = .int .i64 z ∧ In64 z := by
 obtain ⟨z, h1, _, hw⟩ := DataW.trod_int Tryz.underlying3 h
 simp at h1
 exact ⟨z, h1, by unfold In64; simpa [Lit.wf, IntKind.min, IntKind.max, IntKind.signed, IntKind.bits] using hw⟩
theorem setc_of_trod {H : Type} {enc : TypeId × Value → H} {W : World} {n : Nat} {v : Value} {y : DataW H × List MemPlace} (h : DataW.trod enc Tryz.prog W 0 (fun _ => true) true n 23 [v] = some y) : ∃ z : Nat, v = .int .u16 (z : Int) ∧ z < 65536 := by
 obtain ⟨z, h1, _, hw⟩ := DataW.trod_int Tryz.underlying23 h
 simp at h1
 have hb : 0 ≤ z ∧ z ≤ 65535 := by simpa [Lit.wf, IntKind.min, IntKind.max, IntKind.signed, IntKind.bits] using hw
 exact ⟨z.toNat, by rw [h1]; congr 1; omega, by omega⟩
theorem cf_of_cells {H : Type} {enc : TypeId × Value → H} {W : World} {n : Nat} {cs : List Value} {y : DataW H × List MemPlace} (h : DataW.trod enc Tryz.prog W 0 (fun _ => true) true n 25 cs = some y) : ∃ c : CfL, cs = cfC c ∧ c.ok := by
 obtain ⟨xs, m, _, _, hl, hxl, hF⟩ := DataW.trod_struct Tryz.underlying25 h
 have hc : Tryz.prog.cellsOf 25 = 5 := by kernel_rfl
 rw [hc] at hl
 obtain ⟨c0, c1, c2, c3, c4, rfl⟩ := long5 cs hl
 obtain ⟨y0, y1, y2, y3, y4, rfl⟩ := long5 xs hxl
 have k0 : Tryz.prog.cellsOf 23 = 1 := by kernel_rfl
 have f0 : DataW.trod enc Tryz.prog W 0 (fun _ => true) true m 23 [c0] = some y0 := by have h := hF 0 { name := "Voters", type := 23, offset := 0, embedded := false, tag := "", pkgPath := "", byteOffset := 0 } rfl; dsimp only at h; rw [k0] at h; exact h
 have k1 : Tryz.prog.cellsOf 23 = 1 := by kernel_rfl
 have f1 : DataW.trod enc Tryz.prog W 0 (fun _ => true) true m 23 [c1] = some y1 := by have h := hF 1 { name := "Witnesses", type := 23, offset := 1, embedded := false, tag := "", pkgPath := "", byteOffset := 2 } rfl; dsimp only at h; rw [k1] at h; exact h
 have k2 : Tryz.prog.cellsOf 23 = 1 := by kernel_rfl
 have f2 : DataW.trod enc Tryz.prog W 0 (fun _ => true) true m 23 [c2] = some y2 := by have h := hF 2 { name := "Learners", type := 23, offset := 2, embedded := false, tag := "", pkgPath := "", byteOffset := 4 } rfl; dsimp only at h; rw [k2] at h; exact h
 have k3 : Tryz.prog.cellsOf 3 = 1 := by kernel_rfl
 have f3 : DataW.trod enc Tryz.prog W 0 (fun _ => true) true m 3 [c3] = some y3 := by have h := hF 3 { name := "Elect", type := 3, offset := 3, embedded := false, tag := "", pkgPath := "", byteOffset := 8 } rfl; dsimp only at h; rw [k3] at h; exact h
 have k4 : Tryz.prog.cellsOf 3 = 1 := by kernel_rfl
 have f4 : DataW.trod enc Tryz.prog W 0 (fun _ => true) true m 3 [c4] = some y4 := by have h := hF 4 { name := "Commit", type := 3, offset := 4, embedded := false, tag := "", pkgPath := "", byteOffset := 16 } rfl; dsimp only at h; rw [k4] at h; exact h
 obtain ⟨z0, rfl, b0⟩ := setc_of_trod f0
 obtain ⟨z1, rfl, b1⟩ := setc_of_trod f1
 obtain ⟨z2, rfl, b2⟩ := setc_of_trod f2
 obtain ⟨z3, rfl, b3⟩ := intc_of_trod f3
 obtain ⟨z4, rfl, b4⟩ := intc_of_trod f4
 exact ⟨⟨z0, z1, z2, z3, z4⟩, rfl, b0, b1, b2, b3, b4⟩
theorem jt_of_cells {H : Type} {enc : TypeId × Value → H} {W : World} {n : Nat} {cs : List Value} {y : DataW H × List MemPlace} (h : DataW.trod enc Tryz.prog W 0 (fun _ => true) true n 27 cs = some y) : ∃ j : JtL, cs = jtC j ∧ j.ok := by
 obtain ⟨xs, m, _, _, hl, hxl, hF⟩ := DataW.trod_struct Tryz.underlying27 h
 have hc : Tryz.prog.cellsOf 27 = 11 := by kernel_rfl
 rw [hc] at hl
 obtain ⟨c0, c1, c2, c3, c4, c5, c6, c7, c8, c9, c10, rfl⟩ := long11 cs hl
 obtain ⟨y0, y1, y2, rfl⟩ := long3 xs hxl
 have k0 : Tryz.prog.cellsOf 25 = 5 := by kernel_rfl
 have f0 : DataW.trod enc Tryz.prog W 0 (fun _ => true) true m 25 [c0, c1, c2, c3, c4] = some y0 := by have h := hF 0 { name := "Old", type := 25, offset := 0, embedded := false, tag := "", pkgPath := "", byteOffset := 0 } rfl; dsimp only at h; rw [k0] at h; exact h
 have k1 : Tryz.prog.cellsOf 25 = 5 := by kernel_rfl
 have f1 : DataW.trod enc Tryz.prog W 0 (fun _ => true) true m 25 [c5, c6, c7, c8, c9] = some y1 := by have h := hF 1 { name := "New", type := 25, offset := 5, embedded := false, tag := "", pkgPath := "", byteOffset := 24 } rfl; dsimp only at h; rw [k1] at h; exact h
 have k2 : Tryz.prog.cellsOf 4 = 1 := by kernel_rfl
 have f2 : DataW.trod enc Tryz.prog W 0 (fun _ => true) true m 4 [c10] = some y2 := by have h := hF 2 { name := "Two", type := 4, offset := 10, embedded := false, tag := "", pkgPath := "", byteOffset := 48 } rfl; dsimp only at h; rw [k2] at h; exact h
 obtain ⟨a, e0, o0⟩ := cf_of_cells f0
 obtain ⟨b, e1, o1⟩ := cf_of_cells f1
 obtain ⟨z2, rfl⟩ := boolc_of_trod f2
 simp only [cfC, List.cons.injEq, and_true] at e0 e1
 obtain ⟨rfl, rfl, rfl, rfl, rfl⟩ := e0
 obtain ⟨rfl, rfl, rfl, rfl, rfl⟩ := e1
 exact ⟨⟨a, b, z2⟩, rfl, o0, o1⟩
end Go.Proofs.YtegnfkbmlalkeaaGreat.frame
