/- Texts of this claim, joined (KitM3, KitM4, KitM5, KitM6, Map2, Step, Ref8a, MvcA, Ref8b, Ref8c, Ref8g, Ref8e, KitM7, KitOp8): see each one's own words. -/
import Derived.Test.YtlkhmpfdajefiaaJoin0
import Derived.Test.YtlkhmpfdajefiaaProg
import Derived.Laws.Slices
import Derived.Maps.Own
import Derived.Maps.OwnOps
import Derived.Deep.AppendLies
import Derived.BigQuiet
import Derived.Deep.Cut
import Derived.Lib.Bytealg
import Derived.Laws.Externs
import Derived.Deep.RegionHeld3
/- Own slices of cells of keys: reading, what lasts, append of a cell (stage 8). Conditions: those that each theorem names. -/
namespace Go.Proofs.Ytlkhmpfdajefiaa.kit
open Go Go.RowKit Go.Proofs.Ytlkhmpfdajefiaa.nums Go.Proofs.Ytlkhmpfdajefiaa.st Go.Proofs.Ytlkhmpfdajefiaa.mv
set_option linter.unusedVariables false

theorem infoC : (Try.prog.info? 45).map (fun i => (i.zero, i.size, i.bytes)) = some (some (.agg #[.string { data := #[] }, .slice none 0 0, .bool false, .int .i64 0, .int .i64 0, .int .i64 0, .int .i64 0, .int .i64 0, .int .i64 0, .int .i64 0, .bool false, .string { data := #[] }]), 12, 128) := by kernel_rfl
theorem infoVr : (Try.prog.info? 47).map (fun i => (i.zero, i.size, i.bytes)) = some (some (.agg #[.int .i64 0, .int .i64 0, .bool false, .string { data := #[] }]), 4, 40) := by kernel_rfl
section
variable {w w' : World} {base base' : Nat}
theorem OwnCs.nil (w : World) (base : Nat) : OwnCs w base (.slice none 0 0) [] := ⟨[], rfl, World.ownsRow_nil w base _ 12, fun j x sv h => by cases h⟩
theorem pair_len (p : CellL × Value) : (cellC p.1 p.2).length = 12 := rfl
theorem OwnCs.block {v : Value} {cs : List CellL} (h : OwnCs w base v cs) {q : Nat} (hq : v.ownBlock = some q) : base ≤ q ∧ ∃ cur, w.heap[q]? = some (.cells cur 45 (0, 0)) := by
  obtain ⟨svs, h1, h2, h3⟩ := h
  rcases h2.2 with ⟨rfl, _⟩ | ⟨g, cap, cur, rfl, hb, hg, _⟩
  · cases hq
  · injection hq with hq
    subst hq
    exact ⟨hb, cur, hg⟩
theorem types_apart : (45 : TypeId) ≠ 47 := by decide
/-- It lasts where no block from base on turns. -/
theorem OwnCs.keep {v : Value} {cs : List CellL} (h : OwnCs w base v cs) (hk : ∀ g, base ≤ g → g < w.heap.size → w'.heap[g]? = w.heap[g]?) : OwnCs w' base v cs := by
  obtain ⟨svs, h1, h2, h3⟩ := h
  refine ⟨svs, h1, ⟨h2.1, ?_⟩, fun j x sv hx hs => (h3 j x sv hx hs).keep fun g cur hb hg => hk g hb (lt_of_block hg)⟩
  rcases h2.2 with hn | ⟨g, cap, cur, rfl, hbg, hg, r⟩
  · exact .inl hn
  · exact .inr ⟨g, cap, cur, rfl, hbg, by rw [hk g hbg (lt_of_block hg)]; exact hg, r⟩
theorem OwnCs.below {v : Value} {cs : List CellL} (h : OwnCs w base v cs) (hb : Below w.heap.size w w') : OwnCs w' base v cs := h.keep fun g _ hl => hb.block g hl
theorem OwnCs.more {v : Value} {cs : List CellL} (h : OwnCs w base v cs) (hB : base' ≤ base) : OwnCs w base' v cs := by
  obtain ⟨svs, h1, h2, h3⟩ := h
  refine ⟨svs, h1, ⟨h2.1, ?_⟩, fun j x sv hx hs => (h3 j x sv hx hs).more hB⟩
  rcases h2.2 with hn | ⟨g, cap, cur, rfl, hbg, r⟩
  · exact .inl hn
  · exact .inr ⟨g, cap, cur, rfl, by omega, r⟩
/-- It reads. -/
theorem OwnCs.rd {v : Value} {cs : List CellL} (h : OwnCs w base v cs) : ∃ A c, v = .slice A cs.length c ∧ cs.length ≤ c ∧ c ≤ maxLen ∧ RdC w w.heap.size A cs.length cs := by
  obtain ⟨svs, h1, h2, h3⟩ := h
  rcases h2.2 with ⟨hv, hn⟩ | ⟨g, cap, cur, rfl, hb, hg, hnc, hcm, hcs, htake⟩
  · exact ⟨none, 0, by rw [hv, hn], by omega, by omega, rfl, fun hp => absurd hp (by omega)⟩
  · refine ⟨_, cap, rfl, hnc, hcm, rfl, fun _ => ⟨g, 0, rfl, lt_of_block hg, fun j x hx => ?_⟩⟩
    have hj : j < cs.length := (List.getElem?_eq_some_iff.1 hx).1
    have hs : svs[j]? = some svs[j] := List.getElem?_eq_getElem (by omega)
    refine ⟨svs[j], fun i u hu => ?_, (h3 j x _ hx hs).rd⟩
    have hi : i < 12 := by have := (List.getElem?_eq_some_iff.1 hu).1; rw [cell_len] at this; exact this
    have hz : (cs.zip svs)[j]? = some (x, svs[j]) := by rw [List.getElem?_zip_eq_some]; exact ⟨hx, hs⟩
    have hget := flat_get (fun p : CellL × Value => cellC p.1 p.2) 12 pair_len (cs.zip svs) j i _ hz hi
    rw [← htake, List.getElem?_take, if_pos (by omega)] at hget
    rw [cell_of_row w g _ _ _ (0, 0) hg, Nat.zero_add, ← Array.getElem?_toList, hget]
    exact hu
end
/-- 'append(out, x)': one cell more. -/
theorem wpList_append_cell {w : World} {ops : Array Oper} {rest : List Oper} {o : Oper} {a : Act} {Q : Exit → Act → World → Prop} (hgd : o.guard = none) (s x : Operand)
    (ho : o.op = .call { callee := .builtin .append, args := #[s, x], argTypes := #[31, 31] }) (base : Nat)
    (A : Option Addr) (n c : Nat) (cs : List CellL) (hn : cs.length = n) (hs : a.eval s = .slice A n c) (hown : OwnCs w base (.slice A n c) cs)
    (B b f xc : Nat) (y : CellL) (sv : Value) (hx : a.eval x = .slice (some ⟨b, f, none⟩) 1 xc) (hbB : b < B) (hA : At w b f (cellC y sv)) (hV : VsIn w base sv y.vers) (hb : n ≤ 1000000) (hbase : base ≤ w.heap.size)
    (h : ∀ A' c' w', OwnCs w' base (.slice A' (n + 1) c') (cs ++ [y]) → Below base w w' → w.grownBy w' (Value.ownBlock (.slice A n c)) → wpList Try.prog ops Q rest (a.put o.dst (.slice A' (n + 1) c')) w') : wpList Try.prog ops Q (o :: rest) a w := by
  have hblk := fun q hq => (hown.block (q := q) hq)
  obtain ⟨svs, h1, h2, h3⟩ := hown
  rw [hn] at h2
  have hone : ∀ u ∈ cellC y sv, u.oneCell' = true := by
    obtain ⟨A1, c1, rfl, _⟩ := hV
    exact cell_one y A1 _ c1
  refine wpList_append_k hgd s x 31 ho base 45 _ 12 128 Try.underlying31 infoC rfl (by omega) A n c _ hs h2 B _ 1 xc (cellC y sv) hx ⟨rfl, fun _ => ⟨b, f, rfl, hbB, hA⟩⟩ hone (by omega) (by unfold maxLen; omega) hbase ?_
  intro A' c' w' hO hB hG
  refine h A' c' w' ⟨svs ++ [sv], by simp [h1], ?_, ?_⟩ hB hG
  · rw [List.zip_append h1.symm, List.flatMap_append, List.length_append, hn]
    simpa using hO
  · intro j z zv hz hzv
    have hkeep : ∀ sv' vs, VsIn w base sv' vs → VsIn w' base sv' vs := fun sv' vs hvs => hvs.keep fun g cur hb hg => hG.block g (lt_of_block hg) (fun he => by
      obtain ⟨_, cur', hq⟩ := hblk g he.symm
      rw [hg] at hq
      simp only [Option.some.injEq, Obj.cells.injEq] at hq
      exact types_apart hq.2.1.symm)
    by_cases hj : j < cs.length
    · rw [List.getElem?_append_left hj] at hz
      rw [List.getElem?_append_left (by omega)] at hzv
      exact hkeep _ _ (h3 j z zv hz hzv)
    · rw [List.getElem?_append_right (by omega)] at hz
      rw [List.getElem?_append_right (by omega), h1] at hzv
      have h0 : j - cs.length = 0 := by
        rcases Nat.eq_zero_or_pos (j - cs.length) with h0 | h0
        · exact h0
        · rw [List.getElem?_eq_none (by simp; omega)] at hz; cases hz
      rw [h0] at hz hzv
      simp only [List.getElem?_cons_zero, Option.some.injEq] at hz hzv
      subst hz hzv
      exact hkeep _ _ hV
/-- 'append(out, v...)': versions. -/
theorem wpList_append_vers {w : World} {ops : Array Oper} {rest : List Oper} {o : Oper} {a : Act} {Q : Exit → Act → World → Prop} (hgd : o.guard = none) (s x : Operand)
    (ho : o.op = .call { callee := .builtin .append, args := #[s, x], argTypes := #[43, 43] }) (base : Nat)
    (A : Option Addr) (n c : Nat) (vs : List VerL) (hn : vs.length = n) (hs : a.eval s = .slice A n c) (hown : OwnVs w base (.slice A n c) vs)
    (B : Nat) (X : Option Addr) (m xc : Nat) (us : List VerL) (hx : a.eval x = .slice X m xc) (hR : RdVs w B X m us) (hb : n + m ≤ 1000000) (hbase : base ≤ w.heap.size)
    (h : ∀ A' c' w', OwnVs w' base (.slice A' (n + m) c') (vs ++ us) → Below base w w' → w.grownBy w' (Value.ownBlock (.slice A n c)) → wpList Try.prog ops Q rest (a.put o.dst (.slice A' (n + m) c')) w') : wpList Try.prog ops Q (o :: rest) a w := by
  unfold OwnVs at hown
  rw [hn] at hown
  have hone : ∀ u ∈ us.flatMap verC, u.oneCell' = true := fun u hu => by
    obtain ⟨v, _, hv⟩ := List.mem_flatMap.1 hu
    exact ver_one v u hv
  have hm : us.length = m := hR.1
  have hRK : RdK w B X m 4 (us.flatMap verC) := ⟨by rw [flat_length verC 4 ver_len, hm], fun hp => by
    obtain ⟨b, f, e, hlt, hc⟩ := hR.2 hp
    refine ⟨b, f, e, hlt, fun q u hu => ?_⟩
    have hq : q < us.length * 4 := by have := (List.getElem?_eq_some_iff.1 hu).1; rw [flat_length verC 4 ver_len] at this; exact this
    have hj : q / 4 < us.length := by omega
    have hget := flat_get verC 4 ver_len us (q / 4) (q % 4) _ (List.getElem?_eq_getElem hj) (by omega)
    rw [show q / 4 * 4 + q % 4 = q by omega, hu] at hget
    have := hc (q / 4) _ (List.getElem?_eq_getElem hj) (q % 4) u hget.symm
    rw [show f + q / 4 * 4 + q % 4 = f + q by omega] at this
    exact this⟩
  refine wpList_append_k hgd s x 43 ho base 47 _ 4 40 Try.underlying43 infoVr rfl (by omega) A n c _ hs hown B _ m xc _ hx hRK hone (by omega) (by unfold maxLen; omega) hbase ?_
  intro A' c' w' hO hB hG
  refine h A' c' w' ?_ hB hG
  unfold OwnVs
  rw [List.length_append, hn, hm, List.flatMap_append]
  exact hO
end Go.Proofs.Ytlkhmpfdajefiaa.kit

/- Own slices of cells of keys whose versions lie lower than the row; slices of versions cut in front (stage 8). Conditions: those that each theorem names. -/
namespace Go.Proofs.Ytlkhmpfdajefiaa.kit
open Go Go.RowKit Go.Proofs.Ytlkhmpfdajefiaa.nums Go.Proofs.Ytlkhmpfdajefiaa.st Go.Proofs.Ytlkhmpfdajefiaa.mv
set_option linter.unusedVariables false

/-- An own slice of cells from base on, their versions in blocks from vb on. -/
def OwnCs2 (w : World) (base vb : Nat) (v : Value) (cs : List CellL) : Prop :=
  ∃ svs : List Value, svs.length = cs.length ∧ w.ownsRow base 45 12 v cs.length ((cs.zip svs).flatMap fun p => cellC p.1 p.2) ∧ ∀ (j : Nat) (x : CellL) (sv : Value), cs[j]? = some x → svs[j]? = some sv → VsIn w vb sv x.vers
section
variable {w w' : World} {base base' vb : Nat}
theorem OwnCs2.nil (w : World) (base vb : Nat) : OwnCs2 w base vb (.slice none 0 0) [] := ⟨[], rfl, World.ownsRow_nil w base _ 12, fun j x sv h => by cases h⟩
theorem OwnCs2.block {v : Value} {cs : List CellL} (h : OwnCs2 w base vb v cs) {q : Nat} (hq : v.ownBlock = some q) : base ≤ q ∧ ∃ cur, w.heap[q]? = some (.cells cur 45 (0, 0)) := by
  obtain ⟨svs, h1, h2, h3⟩ := h
  rcases h2.2 with ⟨rfl, _⟩ | ⟨g, cap, cur, rfl, hb, hg, _⟩
  · cases hq
  · injection hq with hq
    subst hq
    exact ⟨hb, cur, hg⟩
/-- It lasts where no block from vb on turns. -/
theorem OwnCs2.keep {v : Value} {cs : List CellL} (h : OwnCs2 w base vb v cs) (hv : vb ≤ base) (hk : ∀ g, vb ≤ g → g < w.heap.size → w'.heap[g]? = w.heap[g]?) : OwnCs2 w' base vb v cs := by
  obtain ⟨svs, h1, h2, h3⟩ := h
  refine ⟨svs, h1, ⟨h2.1, ?_⟩, fun j x sv hx hs => (h3 j x sv hx hs).keep fun g cur hb hg => hk g hb (lt_of_block hg)⟩
  rcases h2.2 with hn | ⟨g, cap, cur, rfl, hbg, hg, r⟩
  · exact .inl hn
  · exact .inr ⟨g, cap, cur, rfl, hbg, by rw [hk g (by omega) (lt_of_block hg)]; exact hg, r⟩
theorem OwnCs2.below {v : Value} {cs : List CellL} (h : OwnCs2 w base vb v cs) (hv : vb ≤ base) (hb : Below w.heap.size w w') : OwnCs2 w' base vb v cs := h.keep hv fun g _ hl => hb.block g hl
theorem OwnCs2.one {v : Value} {cs : List CellL} (h : OwnCs2 w base vb v cs) (hv : vb ≤ base) : OwnCs w vb v cs := by
  obtain ⟨svs, h1, h2, h3⟩ := h
  refine ⟨svs, h1, ⟨h2.1, ?_⟩, h3⟩
  rcases h2.2 with hn | ⟨g, cap, cur, rfl, hbg, r⟩
  · exact .inl hn
  · exact .inr ⟨g, cap, cur, rfl, by omega, r⟩
/-- The cells of an own slice: where they lie, with their versions. -/
theorem OwnCs.at_ {A : Option Addr} {n c : Nat} {cs : List CellL} (h : OwnCs w base (.slice A n c) cs) {j : Nat} (hj : j < n) : ∃ b x sv, A = some ⟨b, 0, none⟩ ∧ base ≤ b ∧ b < w.heap.size ∧ cs[j]? = some x ∧ VsIn w base sv x.vers ∧ At w b (j * 12) (cellC x sv) := by
  obtain ⟨svs, h1, h2, h3⟩ := h
  rcases h2.2 with ⟨hv, hn⟩ | ⟨g, cap, cur, hv, hb, hg, hnc, hcm, hcs, htake⟩
  · simp only [Value.slice.injEq] at hv
    omega
  · simp only [Value.slice.injEq] at hv
    obtain ⟨rfl, rfl, rfl⟩ := hv
    have hx : cs[j]? = some cs[j] := List.getElem?_eq_getElem hj
    have hs : svs[j]? = some svs[j] := List.getElem?_eq_getElem (by omega)
    refine ⟨g, cs[j], svs[j], rfl, hb, lt_of_block hg, hx, h3 j _ _ hx hs, fun i u hu => ?_⟩
    have hi : i < 12 := by have := (List.getElem?_eq_some_iff.1 hu).1; rw [cell_len] at this; exact this
    have hz : (cs.zip svs)[j]? = some (cs[j], svs[j]) := by rw [List.getElem?_zip_eq_some]; exact ⟨hx, hs⟩
    have hget := flat_get (fun p : CellL × Value => cellC p.1 p.2) 12 pair_len (cs.zip svs) j i _ hz hi
    rw [← htake, List.getElem?_take, if_pos (by omega)] at hget
    rw [cell_of_row w g _ _ _ (0, 0) hg, ← Array.getElem?_toList, hget]
    exact hu
/-- Cut in front. -/
theorem VsIn.cut {g o n c k : Nat} {vs : List VerL} (h : VsIn w base (.slice (some ⟨g, o, none⟩) n c) vs) (hk : k ≤ n) : VsIn w base (.slice (some ⟨g, o + k * 4, none⟩) (n - k) (c - k)) (vs.drop k) := by
  obtain ⟨A, c', he, h1, h2, h3⟩ := h
  simp only [Value.slice.injEq] at he
  obtain ⟨rfl, rfl, rfl⟩ := he
  refine ⟨_, _, by rw [List.length_drop], by rw [List.length_drop]; omega, by omega, fun hp => ?_⟩
  rw [List.length_drop] at hp
  obtain ⟨g', o', cur, e, hb, hg, ha⟩ := h3 (by omega)
  simp only [Option.some.injEq, Addr.mk.injEq] at e
  obtain ⟨rfl, rfl, _⟩ := e
  refine ⟨_, _, cur, rfl, hb, hg, fun j v hv => ?_⟩
  rw [List.getElem?_drop] at hv
  have := ha _ v hv
  rw [show o + (k + j) * 4 = o + k * 4 + j * 4 by omega] at this
  exact this
theorem VsIn.nil (w : World) (base : Nat) (A : Option Addr) {c : Nat} (hc : c ≤ maxLen) : VsIn w base (.slice A 0 c) [] := ⟨A, c, rfl, Nat.zero_le _, hc, fun h => absurd h (by simp)⟩
end
/-- 'append(out, x)': one cell more; its versions may lie lower than the row. -/
theorem wpList_append_cell2 {w : World} {ops : Array Oper} {rest : List Oper} {o : Oper} {a : Act} {Q : Exit → Act → World → Prop} (hgd : o.guard = none) (s x : Operand)
    (ho : o.op = .call { callee := .builtin .append, args := #[s, x], argTypes := #[31, 31] }) (base vb : Nat)
    (A : Option Addr) (n c : Nat) (cs : List CellL) (hn : cs.length = n) (hs : a.eval s = .slice A n c) (hown : OwnCs2 w base vb (.slice A n c) cs)
    (B b f xc : Nat) (y : CellL) (sv : Value) (hx : a.eval x = .slice (some ⟨b, f, none⟩) 1 xc) (hbB : b < B) (hA : At w b f (cellC y sv)) (hV : VsIn w vb sv y.vers) (hb : n ≤ 1000000) (hbase : base ≤ w.heap.size)
    (h : ∀ A' c' w', OwnCs2 w' base vb (.slice A' (n + 1) c') (cs ++ [y]) → Below base w w' → w.grownBy w' (Value.ownBlock (.slice A n c)) → wpList Try.prog ops Q rest (a.put o.dst (.slice A' (n + 1) c')) w') : wpList Try.prog ops Q (o :: rest) a w := by
  have hblk := fun q hq => (hown.block (q := q) hq)
  obtain ⟨svs, h1, h2, h3⟩ := hown
  rw [hn] at h2
  have hone : ∀ u ∈ cellC y sv, u.oneCell' = true := by
    obtain ⟨A1, c1, rfl, _⟩ := hV
    exact cell_one y A1 _ c1
  refine wpList_append_k hgd s x 31 ho base 45 _ 12 128 Try.underlying31 infoC rfl (by omega) A n c _ hs h2 B _ 1 xc (cellC y sv) hx ⟨rfl, fun _ => ⟨b, f, rfl, hbB, hA⟩⟩ hone (by omega) (by unfold maxLen; omega) hbase ?_
  intro A' c' w' hO hB hG
  refine h A' c' w' ⟨svs ++ [sv], by simp [h1], ?_, ?_⟩ hB hG
  · rw [List.zip_append h1.symm, List.flatMap_append, List.length_append, hn]
    simpa using hO
  · intro j z zv hz hzv
    have hkeep : ∀ sv' vs, VsIn w vb sv' vs → VsIn w' vb sv' vs := fun sv' vs hvs => hvs.keep fun g cur hb hg => hG.block g (lt_of_block hg) (fun he => by
      obtain ⟨_, cur', hq⟩ := hblk g he.symm
      rw [hg] at hq
      simp only [Option.some.injEq, Obj.cells.injEq] at hq
      exact types_apart hq.2.1.symm)
    by_cases hj : j < cs.length
    · rw [List.getElem?_append_left hj] at hz
      rw [List.getElem?_append_left (by omega)] at hzv
      exact hkeep _ _ (h3 j z zv hz hzv)
    · rw [List.getElem?_append_right (by omega)] at hz
      rw [List.getElem?_append_right (by omega), h1] at hzv
      have h0 : j - cs.length = 0 := by
        rcases Nat.eq_zero_or_pos (j - cs.length) with h0 | h0
        · exact h0
        · rw [List.getElem?_eq_none (by simp; omega)] at hz; cases hz
      rw [h0] at hz hzv
      simp only [List.getElem?_cons_zero, Option.some.injEq] at hz hzv
      subst hz hzv
      exact hkeep _ _ hV
end Go.Proofs.Ytlkhmpfdajefiaa.kit

/- 's[lo:]' on a slice of versions. Conditions: those that the theorem names. -/
namespace Go.Proofs.Ytlkhmpfdajefiaa.kit
open Go Go.RowKit Go.Proofs.Ytlkhmpfdajefiaa.nums Go.Proofs.Ytlkhmpfdajefiaa.st Go.Proofs.Ytlkhmpfdajefiaa.mv
set_option linter.unusedVariables false

theorem VsIn.sliced {w : World} {base : Nat} {A : Option Addr} {n c k : Nat} {vs : List VerL} (h : VsIn w base (.slice A n c) vs) (hk : k ≤ n) :
    ∃ A', Go.sliced A k n c 4 = .slice A' (n - k) (c - k) ∧ VsIn w base (.slice A' (n - k) (c - k)) (vs.drop k) := by
  refine ⟨_, rfl, ?_⟩
  obtain ⟨A2, c2, he, h1, h2, h3⟩ := h
  simp only [Value.slice.injEq] at he
  obtain ⟨rfl, rfl, rfl⟩ := he
  refine ⟨_, _, by rw [List.length_drop], by rw [List.length_drop]; omega, by omega, fun hp => ?_⟩
  rw [List.length_drop] at hp
  obtain ⟨g, o, cur, rfl, hb, hg, ha⟩ := h3 (by omega)
  rw [if_neg (by omega)]
  refine ⟨g, o + k * 4, cur, ?_, hb, hg, fun j v hv => ?_⟩
  · by_cases h0 : k = 0
    · subst h0; simp [Addr.add]
    · have h4 : ¬ k * 4 = 0 := by omega
      simp [Addr.add, h4]
  · rw [List.getElem?_drop] at hv
    have := ha _ v hv
    rw [show o + (k + j) * 4 = o + k * 4 + j * 4 by omega] at this
    exact this
theorem elem_k {P : Program} {t e : TypeId} (h : P.underlying t = some (.slice e)) : P.elem t = e := by
  unfold Program.elem; rw [h]
theorem run_sizeOf_four {P : Program} {w : World} {e : TypeId} {i : TypeInfo} (h : P.info? e = some i) (h1 : i.size = 4) : (sizeOf e).run P w = .ok 4 w := by
  simp [sizeOf, typeInfo, h, h1]
/-- 's[lo:]'. -/
theorem wpList_vers_from {w : World} {ops : Array Oper} {rest : List Oper} {o : Oper} {a : Act} {Q : Exit → Act → World → Prop} (hgd : o.guard = none) (s lo : Operand) (ho : o.op = .slice 43 s (some lo) none none) (base : Nat)
    (A : Option Addr) (n c : Nat) (vs : List VerL) (hs : a.eval s = .slice A n c) (hV : VsIn w base (.slice A n c) vs) (kl : IntKind) (L : Int) (p : Nat) (hlo : a.eval lo = .int kl L) (hL : L = (p : Int)) (hpn : p ≤ n)
    (h : ∀ A' c', VsIn w base (.slice A' (n - p) c') (vs.drop p) → wpList Try.prog ops Q rest (a.put o.dst (.slice A' (n - p) c')) w) : wpList Try.prog ops Q (o :: rest) a w := by
  refine wpList_plain hgd fun K hK => ?_
  obtain ⟨i, hi', hz0, hz1, hz2⟩ := info_parts infoVr
  obtain ⟨A', e1, hV'⟩ := hV.sliced hpn
  have hnc : n ≤ c := by
    obtain ⟨A2, c2, he, h1, _⟩ := hV
    simp only [Value.slice.injEq] at he
    omega
  have he := elem_k (P := Try.prog) Try.underlying43
  have hrun := run_slice_l (P := Try.prog) w 43 A n c (by rw [he]; exact Try.underlying43) kl L (by omega) (by omega)
  rw [he, run_sizeOf_four hi' hz1, hL, Int.toNat_natCast] at hrun
  have hat := run_sliceAt_slice (P := Try.prog) w 43 (.slice A n c) (some (.int kl L)) none none (by rw [he]; exact Try.underlying43)
  rw [hL] at hat
  unfold Oper.wp execOp
  simp only [ho, Option.map_some, Option.map_none, hs, hlo, hL, Sem.run_bind, hat, hrun, Result.andThen_ok, Sem.run_pure, e1]
  exact hK _ _ (h A' _ hV')
end Go.Proofs.Ytlkhmpfdajefiaa.kit

/- Cells of keys in memory: all twelve at once, and what is laid anew (stage 8). Conditions: none. -/
namespace Go.Proofs.Ytlkhmpfdajefiaa.kit
open Go Go.RowKit Go.Proofs.Ytlkhmpfdajefiaa.nums Go.Proofs.Ytlkhmpfdajefiaa.st Go.Proofs.Ytlkhmpfdajefiaa.mv
set_option linter.unusedVariables false

section
variable {w w' : World} {b o g : Nat} {E : TypeId} {a0 a1 a2 a3 a4 a5 a6 a7 a8 a9 a10 a11 : Value}
theorem at12 (h : At w b o [a0, a1, a2, a3, a4, a5, a6, a7, a8, a9, a10, a11]) : w.cell? ⟨b, o, none⟩ = some a0 ∧ w.cell? ⟨b, o + 1, none⟩ = some a1 ∧ w.cell? ⟨b, o + 2, none⟩ = some a2 ∧ w.cell? ⟨b, o + 3, none⟩ = some a3 ∧ w.cell? ⟨b, o + 4, none⟩ = some a4 ∧ w.cell? ⟨b, o + 5, none⟩ = some a5 ∧ w.cell? ⟨b, o + 6, none⟩ = some a6 ∧ w.cell? ⟨b, o + 7, none⟩ = some a7 ∧ w.cell? ⟨b, o + 8, none⟩ = some a8 ∧ w.cell? ⟨b, o + 9, none⟩ = some a9 ∧ w.cell? ⟨b, o + 10, none⟩ = some a10 ∧ w.cell? ⟨b, o + 11, none⟩ = some a11 :=
  ⟨h 0 _ rfl, h 1 _ rfl, h 2 _ rfl, h 3 _ rfl, h 4 _ rfl, h 5 _ rfl, h 6 _ rfl, h 7 _ rfl, h 8 _ rfl, h 9 _ rfl, h 10 _ rfl, h 11 _ rfl⟩
theorem blk12 (h : Blk E w g [a0, a1, a2, a3, a4, a5, a6, a7, a8, a9, a10, a11]) : w.cell? ⟨g, 0, none⟩ = some a0 ∧ w.cell? ⟨g, 1, none⟩ = some a1 ∧ w.cell? ⟨g, 2, none⟩ = some a2 ∧ w.cell? ⟨g, 3, none⟩ = some a3 ∧ w.cell? ⟨g, 4, none⟩ = some a4 ∧ w.cell? ⟨g, 5, none⟩ = some a5 ∧ w.cell? ⟨g, 6, none⟩ = some a6 ∧ w.cell? ⟨g, 7, none⟩ = some a7 ∧ w.cell? ⟨g, 8, none⟩ = some a8 ∧ w.cell? ⟨g, 9, none⟩ = some a9 ∧ w.cell? ⟨g, 10, none⟩ = some a10 ∧ w.cell? ⟨g, 11, none⟩ = some a11 :=
  ⟨h.cell 0, h.cell 1, h.cell 2, h.cell 3, h.cell 4, h.cell 5, h.cell 6, h.cell 7, h.cell 8, h.cell 9, h.cell 10, h.cell 11⟩
theorem at4 {a0 a1 a2 a3 : Value} (h : At w b o [a0, a1, a2, a3]) : w.cell? ⟨b, o, none⟩ = some a0 ∧ w.cell? ⟨b, o + 1, none⟩ = some a1 ∧ w.cell? ⟨b, o + 2, none⟩ = some a2 ∧ w.cell? ⟨b, o + 3, none⟩ = some a3 :=
  ⟨h 0 _ rfl, h 1 _ rfl, h 2 _ rfl, h 3 _ rfl⟩
theorem blk4 {a0 a1 a2 a3 : Value} (h : Blk E w g [a0, a1, a2, a3]) : w.cell? ⟨g, 0, none⟩ = some a0 ∧ w.cell? ⟨g, 1, none⟩ = some a1 ∧ w.cell? ⟨g, 2, none⟩ = some a2 ∧ w.cell? ⟨g, 3, none⟩ = some a3 :=
  ⟨h.cell 0, h.cell 1, h.cell 2, h.cell 3⟩
theorem blk2 {a0 a1 : Value} (h : Blk E w g [a0, a1]) : w.cell? ⟨g, 0, none⟩ = some a0 ∧ w.cell? ⟨g, 1, none⟩ = some a1 := ⟨h.cell 0, h.cell 1⟩
theorem blk9 {a0 a1 a2 a3 a4 a5 a6 a7 a8 : Value} (h : Blk E w g [a0, a1, a2, a3, a4, a5, a6, a7, a8]) : w.cell? ⟨g, 0, none⟩ = some a0 ∧ w.cell? ⟨g, 1, none⟩ = some a1 ∧ w.cell? ⟨g, 2, none⟩ = some a2 ∧ w.cell? ⟨g, 3, none⟩ = some a3 ∧ w.cell? ⟨g, 4, none⟩ = some a4 ∧ w.cell? ⟨g, 5, none⟩ = some a5 ∧ w.cell? ⟨g, 6, none⟩ = some a6 ∧ w.cell? ⟨g, 7, none⟩ = some a7 ∧ w.cell? ⟨g, 8, none⟩ = some a8 :=
  ⟨h.cell 0, h.cell 1, h.cell 2, h.cell 3, h.cell 4, h.cell 5, h.cell 6, h.cell 7, h.cell 8⟩
/-- A block that is laid anew, as a row. -/
theorem at_new (w : World) (E : TypeId) (l : List Value) : At (w.alloc (.cells l.toArray E)) w.heap.size 0 l := fun q u hu => by
  have k : Blk E (w.alloc (.cells l.toArray E)) w.heap.size l := heap_alloc_new w _
  rw [Nat.zero_add, k.cell q]
  exact hu
/-- The versions of a cell at an index. -/
theorem VsIn.at_ {base : Nat} {A : Option Addr} {n c : Nat} {vs : List VerL} (h : VsIn w base (.slice A n c) vs) {k : Nat} (hk : k < n) : ∃ b o v, A = some ⟨b, o, none⟩ ∧ base ≤ b ∧ b < w.heap.size ∧ vs[k]? = some v ∧ At w b (o + k * 4) (verC v) := by
  obtain ⟨A2, c2, he, h1, h2, h3⟩ := h
  simp only [Value.slice.injEq] at he
  obtain ⟨rfl, rfl, rfl⟩ := he
  obtain ⟨g, f, cur, e, hb, hg, ha⟩ := h3 (by omega)
  exact ⟨g, f, vs[k], e, hb, lt_of_block hg, List.getElem?_eq_getElem hk, ha k _ (List.getElem?_eq_getElem hk)⟩
theorem VsIn.len {base : Nat} {A : Option Addr} {n c : Nat} {vs : List VerL} (h : VsIn w base (.slice A n c) vs) : n = vs.length ∧ n ≤ c ∧ c ≤ maxLen := by
  obtain ⟨A2, c2, he, h1, h2, h3⟩ := h
  simp only [Value.slice.injEq] at he
  obtain ⟨rfl, rfl, rfl⟩ := he
  exact ⟨rfl, h1, h2⟩
end
end Go.Proofs.Ytlkhmpfdajefiaa.kit

/- Plain laws on a map from int with the two keys 0 and 1: what a look-up tells, what a store turns, how it is made. Conditions: those that each theorem names. -/
namespace Go.Proofs.Ytlkhmpfdajefiaa.map2
open Go.RowKit Go.MapKept Go.Proofs.Ytlkhmpfdajefiaa.kit
set_option linter.unusedVariables false

def ent (k : Int) (v : Value) (n : Nat) : MapEntry := ⟨.int .i64 k, v, n⟩
/-- Block m is a map with the values va at 0 and vb at 1. -/
def IsMap (w : World) (m : Nat) (va vb : Value) : Prop := w.heap[m]? = some (.map #[ent 0 va 0, ent 1 vb 1] 2)
section
variable {P : Program} {w w' : World} {m : Nat} {va vb : Value} {t k e : TypeId}
theorem IsMap.lt (h : IsMap w m va vb) : m < w.heap.size := (Array.getElem?_eq_some_iff.1 h).1
theorem IsMap.keep (h : IsMap w m va vb) (hk : w'.heap[m]? = w.heap[m]?) : IsMap w' m va vb := hk.trans h
theorem IsMap.drew (h : IsMap w m va vb) : IsMap w.drew m va vb := h
theorem IsMap.alloc (h : IsMap w m va vb) (o : Obj) : IsMap (w.alloc o) m va vb := h.keep ((MapKept.heap_alloc w o).2 m h.lt)
theorem run_look0 (h : IsMap w m va vb) (ht : P.underlying t = some (.map k e)) (hk : P.underlying k = some (.int .i64)) : (Instr.lookup t (.map (some m)) (.int .i64 0) false).run P w = .ok va w := by
  have hc : (Instr.checkKey false 10000 k (.int .i64 0)).run P w = .ok () w := MapKept.run_checkKey (k := .int .i64 0) hk (by simp [IsKey]) false 9999
  have hf : Instr.findNow (.int .i64) (.int .i64 0) [ent 0 va 0, ent 1 vb 1] 0 = some (some (0, va)) := by simp [Instr.findNow, Instr.sameNow, ent]
  simp [Instr.lookup, run_underlying ht, MapKept.run_getObj_map h, hc, MapKept.run_findKey hk hf, Result.andThen]
theorem run_look1 (h : IsMap w m va vb) (ht : P.underlying t = some (.map k e)) (hk : P.underlying k = some (.int .i64)) : (Instr.lookup t (.map (some m)) (.int .i64 1) false).run P w = .ok vb w := by
  have hc : (Instr.checkKey false 10000 k (.int .i64 1)).run P w = .ok () w := MapKept.run_checkKey (k := .int .i64 1) hk (by simp [IsKey]) false 9999
  have hf : Instr.findNow (.int .i64) (.int .i64 1) [ent 0 va 0, ent 1 vb 1] 0 = some (some (1, vb)) := by simp [Instr.findNow, Instr.sameNow, ent]
  simp [Instr.lookup, run_underlying ht, MapKept.run_getObj_map h, hc, MapKept.run_findKey hk hf, Result.andThen]
theorem run_lookOk0 (h : IsMap w m va vb) (ht : P.underlying t = some (.map k e)) (hk : P.underlying k = some (.int .i64)) : (Instr.lookup t (.map (some m)) (.int .i64 0) true).run P w = .ok (.tuple #[va, .bool true]) w := by
  have hc : (Instr.checkKey false 10000 k (.int .i64 0)).run P w = .ok () w := MapKept.run_checkKey (k := .int .i64 0) hk (by simp [IsKey]) false 9999
  have hf : Instr.findNow (.int .i64) (.int .i64 0) [ent 0 va 0, ent 1 vb 1] 0 = some (some (0, va)) := by simp [Instr.findNow, Instr.sameNow, ent]
  simp [Instr.lookup, run_underlying ht, MapKept.run_getObj_map h, hc, MapKept.run_findKey hk hf, Result.andThen]
theorem run_lookOk1 (h : IsMap w m va vb) (ht : P.underlying t = some (.map k e)) (hk : P.underlying k = some (.int .i64)) : (Instr.lookup t (.map (some m)) (.int .i64 1) true).run P w = .ok (.tuple #[vb, .bool true]) w := by
  have hc : (Instr.checkKey false 10000 k (.int .i64 1)).run P w = .ok () w := MapKept.run_checkKey (k := .int .i64 1) hk (by simp [IsKey]) false 9999
  have hf : Instr.findNow (.int .i64) (.int .i64 1) [ent 0 va 0, ent 1 vb 1] 0 = some (some (1, vb)) := by simp [Instr.findNow, Instr.sameNow, ent]
  simp [Instr.lookup, run_underlying ht, MapKept.run_getObj_map h, hc, MapKept.run_findKey hk hf, Result.andThen]
theorem run_lookOkN (h : IsMap w m va vb) (ht : P.underlying t = some (.map k e)) (hk : P.underlying k = some (.int .i64)) {z : Value} (hz : (zeroValue e).run P w = .ok z w) {f : Int} (h0 : ¬ f = 0) (h1 : ¬ f = 1) :
    (Instr.lookup t (.map (some m)) (.int .i64 f) true).run P w = .ok (.tuple #[z, .bool false]) w := by
  have hc : (Instr.checkKey false 10000 k (.int .i64 f)).run P w = .ok () w := MapKept.run_checkKey (k := .int .i64 f) hk (by simp [IsKey]) false 9999
  have hf : Instr.findNow (.int .i64) (.int .i64 f) [ent 0 va 0, ent 1 vb 1] 0 = some none := by
    have e0 : (f == 0) = false := by simpa using h0
    have e1 : (f == 1) = false := by simpa using h1
    simp [Instr.findNow, Instr.sameNow, ent, e0, e1]
  simp [Instr.lookup, run_underlying ht, MapKept.run_getObj_map h, hc, MapKept.run_findKey hk hf, hz, Result.andThen]
theorem grown_set (w : World) (m : Nat) (o : Obj) : w.grownBy { w with heap := w.heap.setIfInBounds m o } (some m) :=
  ⟨rfl, rfl, rfl, by simp, fun i _ hi => by simp only [ne_eq, Option.some.injEq] at hi; rw [Array.getElem?_setIfInBounds_ne (fun e => hi e.symm)]⟩
theorem run_put0 (h : IsMap w m va vb) (ht : P.underlying t = some (.map k e)) (hk : P.underlying k = some (.int .i64)) (v : Value) :
    ∃ w', (Instr.mapUpdate t (.map (some m)) (.int .i64 0) v).run P w = .ok () w' ∧ IsMap w' m v vb ∧ w.grownBy w' (some m) := by
  have hc : (Instr.checkKey false 10000 k (.int .i64 0)).run P w = .ok () w := MapKept.run_checkKey (k := .int .i64 0) hk (by simp [IsKey]) false 9999
  have hf : Instr.findNow (.int .i64) (.int .i64 0) [ent 0 va 0, ent 1 vb 1] 0 = some (some (0, va)) := by simp [Instr.findNow, Instr.sameNow, ent]
  have hst : (Instr.keyThatStays (.int .i64 0) (.int .i64 0)).run P w = .ok (.int .i64 0) w := MapKept.run_keyThatStays (d := .int .i64) (by simp [IsKey])
  refine ⟨{ w with heap := w.heap.setIfInBounds m (.map #[ent 0 v 0, ent 1 vb 1] 2) }, ?_, (heap_set h).1, grown_set _ _ _⟩
  have hst' : (Instr.keyThatStays (ent 0 va 0).key (.int .i64 0)).run P w = .ok (.int .i64 0) w := hst
  simp [Instr.mapUpdate, run_underlying ht, MapKept.run_getObj_map h, hc, MapKept.run_findKey hk hf, hst', MapKept.run_setObj_map _ h, Result.andThen]
  rfl
theorem run_put1 (h : IsMap w m va vb) (ht : P.underlying t = some (.map k e)) (hk : P.underlying k = some (.int .i64)) (v : Value) :
    ∃ w', (Instr.mapUpdate t (.map (some m)) (.int .i64 1) v).run P w = .ok () w' ∧ IsMap w' m va v ∧ w.grownBy w' (some m) := by
  have hc : (Instr.checkKey false 10000 k (.int .i64 1)).run P w = .ok () w := MapKept.run_checkKey (k := .int .i64 1) hk (by simp [IsKey]) false 9999
  have hf : Instr.findNow (.int .i64) (.int .i64 1) [ent 0 va 0, ent 1 vb 1] 0 = some (some (1, vb)) := by simp [Instr.findNow, Instr.sameNow, ent]
  have hst : (Instr.keyThatStays (.int .i64 1) (.int .i64 1)).run P w = .ok (.int .i64 1) w := MapKept.run_keyThatStays (d := .int .i64) (by simp [IsKey])
  refine ⟨{ w with heap := w.heap.setIfInBounds m (.map #[ent 0 va 0, ent 1 v 1] 2) }, ?_, (heap_set h).1, grown_set _ _ _⟩
  have hst' : (Instr.keyThatStays (ent 1 vb 1).key (.int .i64 1)).run P w = .ok (.int .i64 1) w := hst
  simp [Instr.mapUpdate, run_underlying ht, MapKept.run_getObj_map h, hc, MapKept.run_findKey hk hf, hst', MapKept.run_setObj_map _ h, Result.andThen]
  rfl
/-- A map as it is filled: 0 first, then 1. -/
theorem run_first (h : w.heap[m]? = some (.map #[] 0)) (ht : P.underlying t = some (.map k e)) (hk : P.underlying k = some (.int .i64)) (v : Value) :
    ∃ w', (Instr.mapUpdate t (.map (some m)) (.int .i64 0) v).run P w = .ok () w' ∧ w'.heap[m]? = some (.map #[ent 0 v 0] 1) ∧ w.grownBy w' (some m) := by
  have hc : (Instr.checkKey false 10000 k (.int .i64 0)).run P w = .ok () w := MapKept.run_checkKey (k := .int .i64 0) hk (by simp [IsKey]) false 9999
  have hf : Instr.findNow (.int .i64) (.int .i64 0) [] 0 = some none := rfl
  refine ⟨{ w with heap := w.heap.setIfInBounds m (.map #[ent 0 v 0] 1) }, ?_, (heap_set h).1, grown_set _ _ _⟩
  simp [Instr.mapUpdate, run_underlying ht, MapKept.run_getObj_map h, hc, MapKept.run_findKey hk hf, MapKept.run_setObj_map _ h, Result.andThen]
  rfl
theorem run_second (h : w.heap[m]? = some (.map #[ent 0 va 0] 1)) (ht : P.underlying t = some (.map k e)) (hk : P.underlying k = some (.int .i64)) (v : Value) :
    ∃ w', (Instr.mapUpdate t (.map (some m)) (.int .i64 1) v).run P w = .ok () w' ∧ IsMap w' m va v ∧ w.grownBy w' (some m) := by
  have hc : (Instr.checkKey false 10000 k (.int .i64 1)).run P w = .ok () w := MapKept.run_checkKey (k := .int .i64 1) hk (by simp [IsKey]) false 9999
  have hf : Instr.findNow (.int .i64) (.int .i64 1) [ent 0 va 0] 0 = some none := by simp [Instr.findNow, Instr.sameNow, ent]
  refine ⟨{ w with heap := w.heap.setIfInBounds m (.map #[ent 0 va 0, ent 1 v 1] 2) }, ?_, (heap_set h).1, grown_set _ _ _⟩
  simp [Instr.mapUpdate, run_underlying ht, MapKept.run_getObj_map h, hc, MapKept.run_findKey hk hf, MapKept.run_setObj_map _ h, Result.andThen]
  rfl
end
/-- Both keys at once. -/
def pick (f : Int) (x y : Value) : Value := if f = 0 then x else y
section
variable {P : Program} {w w' : World} {m : Nat} {va vb : Value} {t k e : TypeId}
theorem run_look (h : IsMap w m va vb) (ht : P.underlying t = some (.map k e)) (hk : P.underlying k = some (.int .i64)) {f : Int} (hf : f = 0 ∨ f = 1) : (Instr.lookup t (.map (some m)) (.int .i64 f) false).run P w = .ok (pick f va vb) w := by
  rcases hf with rfl | rfl
  · exact run_look0 h ht hk
  · exact run_look1 h ht hk
theorem run_lookOk (h : IsMap w m va vb) (ht : P.underlying t = some (.map k e)) (hk : P.underlying k = some (.int .i64)) {f : Int} (hf : f = 0 ∨ f = 1) : (Instr.lookup t (.map (some m)) (.int .i64 f) true).run P w = .ok (.tuple #[pick f va vb, .bool true]) w := by
  rcases hf with rfl | rfl
  · exact run_lookOk0 h ht hk
  · exact run_lookOk1 h ht hk
theorem run_put (h : IsMap w m va vb) (ht : P.underlying t = some (.map k e)) (hk : P.underlying k = some (.int .i64)) (v : Value) {f : Int} (hf : f = 0 ∨ f = 1) :
    ∃ w', (Instr.mapUpdate t (.map (some m)) (.int .i64 f) v).run P w = .ok () w' ∧ IsMap w' m (pick f v va) (pick f vb v) ∧ w.grownBy w' (some m) := by
  rcases hf with rfl | rfl
  · exact run_put0 h ht hk v
  · exact run_put1 h ht hk v
end
/-- The map as it is filled, f keys of it. -/
def MapN (w : World) (m : Nat) (f : Nat) (va vb : Value) : Prop :=
  match f with
  | 0 => w.heap[m]? = some (.map #[] 0)
  | 1 => w.heap[m]? = some (.map #[ent 0 va 0] 1)
  | _ => IsMap w m va vb
section
variable {P : Program} {w w' : World} {m f : Nat} {va vb : Value} {t k e : TypeId}
theorem MapN.keep (h : MapN w m f va vb) (hk : w'.heap[m]? = w.heap[m]?) : MapN w' m f va vb := by
  match f, h with
  | 0, h => exact hk.trans h
  | 1, h => exact hk.trans h
  | _ + 2, h => exact IsMap.keep h hk
theorem MapN.map (h : MapN w m f va vb) : ∃ es c, w.heap[m]? = some (.map es c) := by
  match f, h with
  | 0, h => exact ⟨_, _, h⟩
  | 1, h => exact ⟨_, _, h⟩
  | _ + 2, h => exact ⟨_, _, h⟩
theorem run_fill (h : MapN w m f va vb) (hf : f < 2) (ht : P.underlying t = some (.map k e)) (hk : P.underlying k = some (.int .i64)) (v : Value) :
    ∃ w', (Instr.mapUpdate t (.map (some m)) (.int .i64 f) v).run P w = .ok () w' ∧ MapN w' m (f + 1) (pick f v va) (pick f vb v) ∧ w.grownBy w' (some m) := by
  match f, h, hf with
  | 0, h, _ => exact run_first h ht hk v
  | 1, h, _ => exact run_second h ht hk v
end
/-- 'make(map[K]V, 2)'. -/
theorem run_make2 {P : Program} {t k e : TypeId} (w : World) (ht : P.underlying t = some (.map k e)) : (Instr.makeMap t (some (.int .i64 2))).run P w = .ok (.map (some w.heap.size)) (w.alloc (.map #[] 0)) := by
  simp [Instr.makeMap, run_underlying ht, asInt, asIntOf, Result.andThen]
/-- The store at the operation, for the walk: what it turns is given by its equation. -/
theorem wpList_put {P : Program} (w : World) {ops : Array Oper} {rest : List Oper} {o : Oper} {a : Act} {Q : Exit → Act → World → Prop}
    (hg : o.guard = none) (m x v : Operand) (t : TypeId) (hop : o.op = Op.mapUpdate t m x v) (M K V : Value) (hm : a.eval m = M) (hx : a.eval x = K) (hv : a.eval v = V) (R : World → Prop)
    (hrun : ∃ w', (Instr.mapUpdate t M K V).run P w = .ok () w' ∧ R w')
    (hK : ∀ w', R w' → wpList P ops Q rest (a.put o.dst undef) w') : wpList P ops Q (o :: rest) a w := by
  refine wpList_plain hg fun K' hK' => ?_
  obtain ⟨w', hr, hR⟩ := hrun
  subst hm hx hv
  unfold Oper.wp
  simp [execOp, hop, hr, Result.andThen]
  exact hK' _ _ (hK w' hR)
end Go.Proofs.Ytlkhmpfdajefiaa.map2

/- Single steps of a region that draws its order: an append, a store into a map; an append onto a file's bytes. Conditions: those that each theorem names. -/
namespace Go.Proofs.Ytlkhmpfdajefiaa.kit
open Go.RowKit Go.Proofs.Ytlkhmpfdajefiaa.nums
set_option linter.unusedVariables false

theorem Rd.toV {w : World} {B n : Nat} {A : Option Addr} {l : List Int} (h : Rd w B A n l) : RdV w B A n (u8s l) := by
  refine ⟨by rw [u8s_length, h.1], fun hn => ?_⟩
  obtain ⟨b, o, e, hb, hc⟩ := h.2 hn
  exact ⟨b, o, e, hb, fun j hj => by rw [hc j hj, u8s_getElem? l j (by rw [h.1]; exact hj)]⟩
/-- What 'append(s, xs...)' makes of an own slice: a slice with the bytes of both, in its block or in a new one; nothing else turns. -/
def Grew (E : TypeId) (w : World) (v : Value) (n : Nat) (l : List Int) (v' : Value) (w' : World) : Prop :=
  ∃ A' c', v' = .slice A' n c' ∧ Own E w' 0 v' l ∧ w.grownBy w' v.ownBlock ∧ ∀ k, v'.ownBlock = some k → v.ownBlock = some k ∨ w.heap.size ≤ k
theorem run_grew {P : Program} (w : World) (t ty e : TypeId) (ht : P.underlying t = some (.slice e)) (h2 : (P.info? e).map (fun i => (i.zero, i.size, i.bytes)) = some (some (.int .u8 0), 1, 1))
    (A : Option Addr) (n c : Nat) (l : List Int) (hn : l.length = n) (hown : Own e w 0 (.slice A n c) l)
    (B : Nat) (X : Option Addr) (m xc : Nat) (news : List Int) (hR : Rd w B X m news) (hb : n + m ≤ 140737488355328) :
    ∃ v' w', (Builtin.append_ #[t, t] ty #[.slice A n c, .slice X m xc]).run P w = .ok v' w' ∧ Grew e w (.slice A n c) (n + m) (l ++ news) v' w' := by
  obtain ⟨A', c', w', hrun, h3, _, h5⟩ := run_append_rd (P := P) w 0 t ty e ht h2 A n c l hn hown B X m xc news hR hb (Nat.zero_le _)
  have hV : OwnV e w 0 (.slice A n c) (u8s l) := by unfold OwnV; rw [u8s_length]; exact hown
  have hfr := run_append_fresh (P := P) w 0 t ty e (.int .u8 0) 1 ht h2 rfl A n c (u8s l) (by rw [u8s_length, hn]) hV B X m xc (u8s news) hR.toV (u8s_one _) (by omega) (by unfold maxLen; omega) hrun
  exact ⟨_, w', hrun, A', c', rfl, h3, h5, hfr⟩
section
variable {P : Program} {w : World} {ops : Array Oper} {o : Oper} {a : Act} {K : Act → World → Prop} {Q : Exit → Act → World → Prop} {E : Prop}
theorem step_append (hgd : o.guard = none) (s x : Operand) (t : TypeId) (ho : o.op = .call { callee := .builtin .append, args := #[s, x], argTypes := #[t, t] }) (V X : Value) (hs : a.eval s = V) (hx : a.eval x = X) (R : Value → World → Prop)
    (hrun : ∃ v w', (Builtin.append_ #[t, t] o.type #[V, X]).run P w = .ok v w' ∧ R v w') (hK : ∀ v w', R v w' → K (a.put o.dst v) w') :
    if Region.wanted o (yielded ops a.tmps) = true then Oper.wp P o a w K Q else E := by
  have hw : Region.wanted o (yielded ops a.tmps) = true := by simp [Region.wanted, hgd]
  rw [if_pos hw]
  obtain ⟨v, w', hr, hR⟩ := hrun
  subst hs hx
  unfold Oper.wp execOp
  simp only [ho, resolve, invoke, builtin, Sem.run_bind, Sem.run_pure, Result.andThen_ok, List.map_toArray, List.map_cons, List.map_nil, hr]
  exact hK _ _ hR
theorem step_put (hgd : o.guard = none) (m x v : Operand) (t : TypeId) (ho : o.op = Op.mapUpdate t m x v) (M X V : Value) (hm : a.eval m = M) (hx : a.eval x = X) (hv : a.eval v = V) (R : World → Prop)
    (hrun : ∃ w', (Instr.mapUpdate t M X V).run P w = .ok () w' ∧ R w') (hK : ∀ w', R w' → K (a.put o.dst undef) w') :
    if Region.wanted o (yielded ops a.tmps) = true then Oper.wp P o a w K Q else E := by
  have hw : Region.wanted o (yielded ops a.tmps) = true := by simp [Region.wanted, hgd]
  rw [if_pos hw]
  obtain ⟨w', hr, hR⟩ := hrun
  subst hm hx hv
  unfold Oper.wp
  simp [execOp, ho, hr, Result.andThen]
  exact hK _ hR
end
end Go.Proofs.Ytlkhmpfdajefiaa.kit

/- What the document's find, In, of, Get, Held, Mine, Blocks (antipoderef8) come to. Conditions: those that each theorem names. -/
namespace Go.Proofs.Ytlkhmpfdajefiaa.ref8
open Go Go.RowKit Go.Proofs.Ytlkhmpfdajefiaa.kit Go.Proofs.Ytlkhmpfdajefiaa.nums Go.Proofs.Ytlkhmpfdajefiaa.st Go.Proofs.Ytlkhmpfdajefiaa.mv
set_option linter.unusedVariables false

/-- Where a key's cell is. -/
def idxF (k : ByteArray) : List CellL → Nat → Int
  | [], _ => -1
  | x :: r, j => if x.key = k then (j : Int) else idxF k r (j + 1)
theorem idx_drop (cs : List CellL) (k : ByteArray) (j : Nat) (x : CellL) (hx : cs[j]? = some x) : idxF k (cs.drop j) j = if x.key = k then (j : Int) else idxF k (cs.drop (j + 1)) (j + 1) := by
  obtain ⟨hj, rfl⟩ := List.getElem?_eq_some_iff.1 hx
  rw [List.drop_eq_getElem_cons hj]
  rfl
set_option maxHeartbeats 1000000 in
theorem find_any (A : Option Addr) (n c : Nat) (cs : List CellL) (k : ByteArray) (w : World) (B : Nat) (hR : RdC w B A n cs) (hb : n ≤ 1099511627776) :
    Calls Try.prog 49 #[.slice A n c, .string k] w fun e w' => e = .returned (.int .i64 (idxF k cs 0)) ∧ w = w' := by
  have HR := Lib.hid (fun j (hj : j < n) => hR.at_ hj)
  have HI := Lib.hid (idx_drop cs k)
  have HL := Lib.hid hR.1
  have HE := Lib.hid (fun x => text_eq x k)
  clear hR
  obtain ⟨z, hz⟩ : ∃ z, idxF k cs 0 = z := ⟨_, rfl⟩
  rw [hz]
  have HZ : Hid (z = idxF k (cs.drop 0) 0) := hz.symm
  clear hz
  go_enter Try.func49, Try.ntmps49
  go_wp2_with fail
  go_loop [5] (fun iv => ∃ j : Nat, j ≤ n ∧ iv = .int .i64 j ∧ Hid (z = idxF k (cs.drop j) j)) (fun iv => n - (intOf iv).toNat)
  case atStart => exact ⟨0, Nat.zero_le _, rfl, HZ⟩
  case round =>
    obtain ⟨j, hj, rfl, hI⟩ := hrel
    by_cases hlt : j < n
    · obtain ⟨b, o, x, sv, rfl, hbB, hx, hS, hA⟩ := HR.out j hlt
      have a0 : w.cell? ⟨b, o + j * 12, none⟩ = some (.string x.key) := hA 0 _ rfl
      have hI2 := hI.out.trans (HI.out j x hx)
      have he := HE.out x.key
      by_cases hk : x.key = k
      · rw [if_pos hk] at hI2
        rw [decide_eq_true hk] at he
        have hV := Lib.hid hI2
        clear hI hI2 hA hk
        go_wp2_with fail
        go_ret
        exact ⟨by rw [hV.out]; rfl, rfl⟩
      · rw [if_neg hk] at hI2
        rw [decide_eq_false hk] at he
        have hV := Lib.hid hI2
        clear hI hI2 hA hk
        go_wp2_with fail
        go_round
        case rel => exact ⟨j + 1, by omega, by go_num, hV⟩
        case measure => simp [intOf]; omega
    · obtain rfl : j = n := by omega
      have hV : Hid (z = -1) := by rw [hI.out, List.drop_of_length_le (by rw [HL.out]; exact Nat.le_refl _)]; exact Lib.hid rfl
      go_wp2_with fail
      go_ret
      exact ⟨by rw [hV.out]; rfl, rfl⟩
theorem in_any (k lo hi : ByteArray) (w : World) : Calls Try.prog 53 #[.string k, .agg #[.string lo, .string hi]] w fun e w' => e = .returned (.bool (inF k lo hi)) ∧ Below w.heap.size w w' := by
  have HB : Hid (Below w.heap.size w (w.alloc (.cells #[.string lo, .string hi] 26))) := (Below.refl _ _).alloc (Nat.le_refl _) _
  have h1 := text_less k lo
  have h2 := text_less k hi
  have h3 := text_eq k lo
  have h4 := text_less lo k
  have HF := Lib.hid (show inF k lo hi = (!sl k lo && sl k hi) from rfl)
  rcases hs : sl k lo with _ | _
  · rw [hs] at h1 HF
    rcases ht : sl k hi with _ | _
    all_goals
      rw [ht] at h2 HF
      go_enter Try.func53, Try.ntmps53
      go_wp2_with fail
      go_ret
      exact ⟨by rw [HF.out]; first | rfl | simp, HB.out⟩
  · rw [hs] at h1 HF
    go_enter Try.func53, Try.ntmps53
    go_wp2_with fail
    go_ret
    exact ⟨by rw [HF.out]; first | rfl | simp, HB.out⟩
def ofV (r : Option ByteArray) : Value := .tuple #[.string (r.getD noText), .bool r.isSome]
theorem pick_take (vs : List VerL) (t : StL) (j : Nat) (v : VerL) (hv : vs[j]? = some v) : pickF (vs.take (j + 1)) t = if lessF t v.at_ then pickF (vs.take j) t else some v := by
  obtain ⟨hj, rfl⟩ := List.getElem?_eq_some_iff.1 hv
  rw [List.take_succ_eq_append_getElem hj]
  unfold pickF
  rw [List.filter_append]
  by_cases h : lessF t vs[j].at_ = true
  · simp [h]
  · simp [h]
set_option maxHeartbeats 1000000 in
theorem of_any (x : CellL) (sv : Value) (t : StL) (w : World) (B : Nat) (hS : SlVs w B sv x.vers) (hB : B ≤ w.heap.size) (hb : x.vers.length ≤ 1099511627776) :
    Calls Try.prog 51 #[.agg (cellC x sv).toArray, .agg (stC t).toArray] w fun e w' => e = .returned (ofV (ofF x.vers t)) ∧ Below w.heap.size w w' := by
  obtain ⟨A, c, rfl, hc1, hc2, hR⟩ := hS
  obtain ⟨tw, tt⟩ := t
  have HLS := Lib.hid (fun (v : VerL) w => ref6.less_any ⟨tw, tt⟩ v.at_ w)
  have HP := Lib.hid (pick_take x.vers ⟨tw, tt⟩)
  obtain ⟨key, vers, locked, lock⟩ := x
  dsimp only at hc1 hR hb HP ⊢
  have HR := Lib.hid (fun j (hj : j < vers.length) => hR.at_ hj)
  unfold cellC stC
  unfold ref6.stV at HLS
  dsimp only at HLS ⊢
  have hB0 : Hid (Below w.heap.size w ((w.alloc (.cells #[.string key, .slice A vers.length c, .bool locked, .int .i64 lock.by_.node, .int .i64 lock.by_.life, .int .i64 lock.by_.seq, .int .i64 lock.by_.att, .int .i64 lock.home, .int .i64 lock.at_.wall, .int .i64 lock.at_.tie, .bool lock.drop, .string lock.data] 45)).alloc (.cells #[.int .i64 tw, .int .i64 tt] 24))) := (((Below.refl _ _).alloc (Nat.le_refl _) _).alloc (by simp) _)
  have HC : Hid (∀ wq, Below ((w.alloc (.cells #[.string key, .slice A vers.length c, .bool locked, .int .i64 lock.by_.node, .int .i64 lock.by_.life, .int .i64 lock.by_.seq, .int .i64 lock.by_.att, .int .i64 lock.home, .int .i64 lock.at_.wall, .int .i64 lock.at_.tie, .bool lock.drop, .string lock.data] 45)).alloc (.cells #[.int .i64 tw, .int .i64 tt] 24)).heap.size ((w.alloc (.cells #[.string key, .slice A vers.length c, .bool locked, .int .i64 lock.by_.node, .int .i64 lock.by_.life, .int .i64 lock.by_.seq, .int .i64 lock.by_.att, .int .i64 lock.home, .int .i64 lock.at_.wall, .int .i64 lock.at_.tie, .bool lock.drop, .string lock.data] 45)).alloc (.cells #[.int .i64 tw, .int .i64 tt] 24)) wq → wq.cell? ⟨w.heap.size, 1, none⟩ = some (.slice A vers.length c) ∧ wq.cell? ⟨w.heap.size + 1, 0, none⟩ = some (.int .i64 tw) ∧ wq.cell? ⟨w.heap.size + 1, 1, none⟩ = some (.int .i64 tt)) := fun wq hq => by
    have k0 : Blk 45 ((w.alloc (.cells #[.string key, .slice A vers.length c, .bool locked, .int .i64 lock.by_.node, .int .i64 lock.by_.life, .int .i64 lock.by_.seq, .int .i64 lock.by_.att, .int .i64 lock.home, .int .i64 lock.at_.wall, .int .i64 lock.at_.tie, .bool lock.drop, .string lock.data] 45)).alloc (.cells #[.int .i64 tw, .int .i64 tt] 24)) w.heap.size _ := Blk.alloc (heap_alloc_new w (.cells #[.string key, .slice A vers.length c, .bool locked, .int .i64 lock.by_.node, .int .i64 lock.by_.life, .int .i64 lock.by_.seq, .int .i64 lock.by_.att, .int .i64 lock.home, .int .i64 lock.at_.wall, .int .i64 lock.at_.tie, .bool lock.drop, .string lock.data] 45)) _
    have k1 : Blk 24 ((w.alloc (.cells #[.string key, .slice A vers.length c, .bool locked, .int .i64 lock.by_.node, .int .i64 lock.by_.life, .int .i64 lock.by_.seq, .int .i64 lock.by_.att, .int .i64 lock.home, .int .i64 lock.at_.wall, .int .i64 lock.at_.tie, .bool lock.drop, .string lock.data] 45)).alloc (.cells #[.int .i64 tw, .int .i64 tt] 24)) (w.heap.size + 1) [.int .i64 tw, .int .i64 tt] := by
      have := heap_alloc_new (w.alloc (.cells #[.string key, .slice A vers.length c, .bool locked, .int .i64 lock.by_.node, .int .i64 lock.by_.life, .int .i64 lock.by_.seq, .int .i64 lock.by_.att, .int .i64 lock.home, .int .i64 lock.at_.wall, .int .i64 lock.at_.tie, .bool lock.drop, .string lock.data] 45)) (.cells #[.int .i64 tw, .int .i64 tt] 24)
      simpa [Blk] using this
    have j0 := k0.below hq k0.lt
    have j1 := k1.below hq k1.lt
    exact ⟨j0.cell 1, j1.cell 0, j1.cell 1⟩
  clear hR
  have hs1 : w.heap.size + 1 < ((w.alloc (.cells #[.string key, .slice A vers.length c, .bool locked, .int .i64 lock.by_.node, .int .i64 lock.by_.life, .int .i64 lock.by_.seq, .int .i64 lock.by_.att, .int .i64 lock.home, .int .i64 lock.at_.wall, .int .i64 lock.at_.tie, .bool lock.drop, .string lock.data] 45)).alloc (.cells #[.int .i64 tw, .int .i64 tt] 24)).heap.size := by simp
  go_enter Try.func51, Try.ntmps51
  go_upto_region 1 with (fail)
  generalize ((w.alloc (.cells #[.string key, .slice A vers.length c, .bool locked, .int .i64 lock.by_.node, .int .i64 lock.by_.life, .int .i64 lock.by_.seq, .int .i64 lock.by_.att, .int .i64 lock.home, .int .i64 lock.at_.wall, .int .i64 lock.at_.tie, .bool lock.drop, .string lock.data] 45)).alloc (.cells #[.int .i64 tw, .int .i64 tt] 24)) = w1 at *
  go_wp2_with fail
  go_loopw [6, 7, 8] (fun dv bv iv wr => ∃ (j : Nat) (d : ByteArray) (b : Bool), j ≤ vers.length ∧ iv = .int .i64 j ∧ dv = .string d ∧ bv = .bool b ∧ Hid ((d, b) = match pickF (vers.take j) ⟨tw, tt⟩ with | some v => (v.data, !v.drop) | none => (noText, false)) ∧ Below w1.heap.size w1 wr) (fun _ _ iv _ => vers.length - (intOf iv).toNat)
  case atStart => exact ⟨0, noText, false, Nat.zero_le _, rfl, rfl, rfl, rfl, Below.refl _ _⟩
  case round =>
    obtain ⟨j, d, bb, hj, rfl, rfl, rfl, hP, hBr⟩ := hrel
    obtain ⟨a1, s0, s1⟩ := HC.out _ hBr
    have hs2 : w.heap.size + 1 < wr.heap.size := by have := hBr.size; omega
    by_cases hlt : j < vers.length
    · obtain ⟨b, o, v, rfl, hbB, hv, hA⟩ := HR.out j hlt
      have hA2 : At wr b (o + j * 4) (verC v) := hA.below (show b < w.heap.size by omega) (hB0.out.trans (hBr.mono hB0.out.size))
      have v0 : wr.cell? ⟨b, o + j * 4, none⟩ = some (.int .i64 v.at_.wall) := hA2 0 _ rfl
      have v1 : wr.cell? ⟨b, o + j * 4 + 1, none⟩ = some (.int .i64 v.at_.tie) := hA2 1 _ rfl
      have v2 : wr.cell? ⟨b, o + j * 4 + 2, none⟩ = some (.bool v.drop) := hA2 2 _ rfl
      have v3 : wr.cell? ⟨b, o + j * 4 + 3, none⟩ = some (.string v.data) := hA2 3 _ rfl
      have hPt := HP.out j v hv
      go_wp2_with fail
      have kv : Blk 47 (wr.alloc (.cells #[.int .i64 v.at_.wall, .int .i64 v.at_.tie, .bool v.drop, .string v.data] 47)) wr.heap.size [.int .i64 v.at_.wall, .int .i64 v.at_.tie, .bool v.drop, .string v.data] := heap_alloc_new wr _
      have hBv := hBr.alloc hBr.size (.cells #[.int .i64 v.at_.wall, .int .i64 v.at_.tie, .bool v.drop, .string v.data] 47)
      obtain ⟨g, hg⟩ : ∃ g, wr.heap.size = g := ⟨_, rfl⟩
      rw [hg] at kv ⊢
      refine (HLS.out v _).mono ?_
      generalize (wr.alloc (.cells #[.int .i64 v.at_.wall, .int .i64 v.at_.tie, .bool v.drop, .string v.data] 47)) = y at *
      rintro e w5 ⟨rfl, hB5⟩
      have k5 := kv.below hB5 kv.lt
      have hB15 := hBv.trans (hB5.mono hBv.size)
      have c2 := k5.cell 2
      have c3 := k5.cell 3
      simp only [List.getElem?_cons_zero, List.getElem?_cons_succ] at c2 c3
      by_cases hL : lessF ⟨tw, tt⟩ v.at_ = true
      · rw [if_pos hL] at hPt
        rw [hL]
        have hP2 := Lib.hid hPt
        clear hPt hL
        go_wp2_with fail
        go_roundw
        case rel => exact ⟨j + 1, d, bb, by omega, by go_num, rfl, rfl, by rw [hP2.out]; exact hP, hB15⟩
        case measure => simp [intOf]; omega
      · rw [if_neg hL] at hPt
        have hL' : lessF ⟨tw, tt⟩ v.at_ = false := by simpa using hL
        rw [hL']
        have hP2 := Lib.hid hPt
        clear hPt hL
        go_wp2_with fail
        go_quiet (fail)
        go_wp2_with fail
        go_roundw
        case rel => exact ⟨j + 1, v.data, !v.drop, by omega, by go_num, rfl, rfl, by rw [hP2.out]; exact Lib.hid rfl, below_drewN hB15 _⟩
        case measure => simp [intOf]; omega
    · obtain rfl : j = vers.length := by omega
      have hP2 := hP.out
      rw [List.take_length] at hP2
      have hBf := hB0.out.trans (hBr.mono hB0.out.size)
      cases bb with
      | false =>
        have hV : Hid (ofF vers ⟨tw, tt⟩ = none) := by
          unfold ofF
          cases hp : pickF vers ⟨tw, tt⟩ with
          | none => exact Lib.hid rfl
          | some u =>
            rw [hp] at hP2
            simp only [Prod.mk.injEq] at hP2
            have : u.drop = true := by simpa using hP2.2.symm
            simp [this, Hid]
        clear hP2
        go_wp2_with fail
        go_ret2
        exact ⟨by rw [hV.out]; rfl, hBf⟩
      | true =>
        have hV : Hid (ofF vers ⟨tw, tt⟩ = some d) := by
          unfold ofF
          cases hp : pickF vers ⟨tw, tt⟩ with
          | none =>
            rw [hp] at hP2
            simp at hP2
          | some u =>
            rw [hp] at hP2
            simp only [Prod.mk.injEq] at hP2
            have : u.drop = false := by simpa using hP2.2.symm
            simp [this, hP2.1, Hid]
        clear hP2
        go_wp2_with fail
        go_ret2
        exact ⟨by rw [hV.out]; rfl, hBf⟩
end Go.Proofs.Ytlkhmpfdajefiaa.ref8

/- What the program's compareKey and find come to (mvcc). Conditions: cells that may be. -/
namespace Go.Proofs.Ytlkhmpfdajefiaa.mvi
open Go Go.RowKit Go.Proofs.Ytlkhmpfdajefiaa.kit Go.Proofs.Ytlkhmpfdajefiaa.nums Go.Proofs.Ytlkhmpfdajefiaa.st Go.Proofs.Ytlkhmpfdajefiaa.mv
set_option linter.unusedVariables false

theorem compare_any (a b : ByteArray) (w : World) : Calls Try.prog 61 #[.string a, .string b] w fun e w' => e = .returned (.int .i64 (cmpS a b)) ∧ w = w' := by
  have C : ∀ w : World, Calls Try.prog 64 #[.string a, .string b] w fun e w' => e = .returned (.int .i64 (cmpS a b)) ∧ w = w' := fun w => by
    rw [← cmp_text]
    go_enter Try.func64, Try.ntmps64
    go_wp2
    rw [run_callFunc_extern Try.func67 (by kernel_rfl) (by kernel_rfl) (by kernel_rfl) (e := Extern.BytealgCompare.compare) (by kernel_rfl), Lib.run_compareString]
    simp only [Result.andThen]
    rw [Oper.upon_value]
    go_wp2
    go_ret
    exact ⟨rfl, rfl⟩
  have CH := Lib.hid C
  clear C
  go_enter Try.func61, Try.ntmps61
  go_wp2_with fail
  refine (CH.out _).mono ?_
  rintro e w2 ⟨rfl, rfl⟩
  go_wp2_with fail
  go_ret
  exact ⟨rfl, rfl⟩
theorem key_any (x : CellL) (sv : Value) (k : ByteArray) (w : World) : Calls Try.prog 56 #[.agg #[.string x.key, sv, .bool x.locked, .int .i64 x.lock.by_.node, .int .i64 x.lock.by_.life, .int .i64 x.lock.by_.seq, .int .i64 x.lock.by_.att, .int .i64 x.lock.home, .int .i64 x.lock.at_.wall, .int .i64 x.lock.at_.tie, .bool x.lock.drop, .string x.lock.data], .string k] w fun e w' => e = .returned (.int .i64 (cmpS x.key k)) ∧ Below w.heap.size w w' := by
  have CH := Lib.hid (fun w => compare_any x.key k w)
  have HB : Hid (Below w.heap.size w (w.alloc (.cells #[.string x.key, sv, .bool x.locked, .int .i64 x.lock.by_.node, .int .i64 x.lock.by_.life, .int .i64 x.lock.by_.seq, .int .i64 x.lock.by_.att, .int .i64 x.lock.home, .int .i64 x.lock.at_.wall, .int .i64 x.lock.at_.tie, .bool x.lock.drop, .string x.lock.data] 45))) := (Below.refl _ _).alloc (Nat.le_refl _) _
  go_enter Try.func56, Try.ntmps56
  go_wp2_with fail
  refine (CH.out _).mono ?_
  rintro e w2 ⟨rfl, rfl⟩
  go_wp2_with fail
  go_ret
  exact ⟨rfl, HB.out⟩
set_option maxRecDepth 100000 in
set_option maxHeartbeats 2000000 in
theorem search_any (A : Option Addr) (n c : Nat) (cs : List CellL) (k : ByteArray) (w : World) (B : Nat) (hR : RdC w B A n cs) (hB : B ≤ w.heap.size) (hb : n ≤ 1000000) (hok : cs.Pairwise (fun a b => sl a.key b.key = true)) :
    Calls Try.prog 55 #[.slice A n c, .string k, .func (.func 56) #[] #[]] w fun e w' => ∃ (p : Nat) (b : Bool), e = .returned (.tuple #[.int .i64 p, .bool b]) ∧ PosB cs k p b ∧ Below w.heap.size w w' := by
  have HR := Lib.hid (fun j (hj : j < n) => hR.at_ hj)
  have HL := Lib.hid hR.1
  have CK := Lib.hid (fun (x : CellL) (sv : Value) w => key_any x sv k w)
  have HU := Lib.hid (fun (j : Nat) (y : CellL) (hy : cs[j]? = some y) (hk : sl y.key k = true) => pos_up hok hy hk)
  have HD := Lib.hid (fun (j : Nat) (y : CellL) (hy : cs[j]? = some y) (hk : sl y.key k = false) => pos_down hok hy hk)
  clear hR hok
  go_enter Try.func55, Try.ntmps55
  go_wp2_with fail
  go_loopw [9, 10] (fun iv jv wr => ∃ lo hi : Nat, iv = .int .i64 lo ∧ jv = .int .i64 hi ∧ lo ≤ hi ∧ hi ≤ n ∧ Hid (∀ (i : Nat) (x : CellL), i < lo → cs[i]? = some x → sl x.key k = true) ∧ Hid (∀ (i : Nat) (x : CellL), hi ≤ i → cs[i]? = some x → sl x.key k = false) ∧ Below w.heap.size w wr) (fun iv jv _ => (intOf jv).toNat - (intOf iv).toNat)
  case atStart => exact ⟨0, n, rfl, rfl, Nat.zero_le _, Nat.le_refl _, fun i x h => absurd h (by omega), fun i x h hx => by have := (List.getElem?_eq_some_iff.1 hx).1; have := HL.out; omega, Below.refl _ _⟩
  case round =>
    obtain ⟨lo, hi, rfl, rfl, hlh, hhn, hU, hD, hBr⟩ := hrel
    by_cases hlt : lo < hi
    · obtain ⟨b, o, x, sv, rfl, hbB, hx, hS, hA⟩ := HR.out ((lo + hi) / 2) (by omega)
      obtain ⟨a0, a1, a2, a3, a4, a5, a6, a7, a8, a9, a10, a11⟩ := at12 (hA.below (show b < w.heap.size by omega) hBr)
      have HX := Lib.hid hx
      have CKx := Lib.hid (fun w => CK.out x sv w)
      clear hA hS hx
      generalize hc : cmpS x.key k = cz at *
      by_cases hk : cz < 0
      · have hU2 := Lib.hid (HU.out _ x HX.out (cmp_lt.1 (by rw [hc]; exact hk)))
        clear hU hc
        go_wp2_with fail
        refine (CKx.out _).mono ?_
        rintro e w3 ⟨rfl, hB3⟩
        have hB13 := hBr.trans (hB3.mono hBr.size)
        clear CKx
        go_wp2_with fail
        go_roundw
        case rel => exact ⟨(lo + hi) / 2 + 1, hi, by go_num, rfl, by omega, hhn, hU2, hD, hB13⟩
        case measure => simp [intOf]; omega
      · have hD2 := Lib.hid (HD.out _ x HX.out (by cases hs : sl x.key k with | false => rfl | true => exact absurd (by rw [← hc]; exact cmp_lt.2 hs) hk))
        clear hD hc
        go_wp2_with fail
        refine (CKx.out _).mono ?_
        rintro e w3 ⟨rfl, hB3⟩
        have hB13 := hBr.trans (hB3.mono hBr.size)
        clear CKx
        go_wp2_with fail
        go_roundw
        case rel => exact ⟨lo, (lo + hi) / 2, rfl, by go_num, by omega, by omega, hU, hD2, hB13⟩
        case measure => simp [intOf]; omega
    · obtain rfl : hi = lo := by omega
      have HP := Lib.hid (show Pos cs k hi from ⟨by rw [HL.out]; exact hhn, hU.out, hD.out⟩)
      clear hU hD
      by_cases hn : hi < n
      · obtain ⟨b, o, x, sv, rfl, hbB, hx, hS, hA⟩ := HR.out hi hn
        obtain ⟨a0, a1, a2, a3, a4, a5, a6, a7, a8, a9, a10, a11⟩ := at12 (hA.below (show b < w.heap.size by omega) hBr)
        have HX := Lib.hid hx
        have CKx := Lib.hid (fun w => CK.out x sv w)
        clear hA hS hx
        generalize hc : cmpS x.key k = cz at *
        by_cases hz : cz = 0
        · have HQ : Hid (PosB cs k hi true) := ⟨HP.out, fun _ => ⟨x, HX.out, cmp_zero.1 (hc.trans hz)⟩, (fun h => by cases h)⟩
          subst hz
          clear HP hc
          go_wp2_with fail
          refine (CKx.out _).mono ?_
          rintro e w3 ⟨rfl, hB3⟩
          have hB13 := hBr.trans (hB3.mono hBr.size)
          clear CKx
          go_wp2_with fail
          go_ret2
          exact ⟨hi, true, rfl, HQ.out, hB13⟩
        · have HQ : Hid (PosB cs k hi false) := ⟨HP.out, (fun h => by cases h), fun _ y hy e => by rw [HX.out] at hy; obtain rfl := Option.some.inj hy; exact hz (hc.symm.trans (cmp_zero.2 e))⟩
          have hz' : (cz == 0) = false := by simpa using hz
          clear HP hc
          go_wp2_with fail
          refine (CKx.out _).mono ?_
          rintro e w3 ⟨rfl, hB3⟩
          have hB13 := hBr.trans (hB3.mono hBr.size)
          clear CKx
          go_wp2_with fail
          go_ret2
          exact ⟨hi, false, by first | rfl | simp, HQ.out, hB13⟩
      · obtain rfl : hi = n := by omega
        have HQ : Hid (PosB cs k hi false) := ⟨HP.out, (fun h => by cases h), fun _ y hy => by have := (List.getElem?_eq_some_iff.1 hy).1; have := HL.out; omega⟩
        clear HP
        go_wp2_with fail
        go_ret2
        exact ⟨hi, false, rfl, HQ.out, hBr⟩
/-- find. -/
theorem find_any (A : Option Addr) (n c : Nat) (cs : List CellL) (k : ByteArray) (w : World) (B : Nat) (hR : RdC w B A n cs) (hB : B ≤ w.heap.size) (hb : n ≤ 1000000) (hok : cs.Pairwise (fun a b => sl a.key b.key = true)) :
    Calls Try.prog 47 #[.slice A n c, .string k] w fun e w' => ∃ (p : Nat) (b : Bool), e = .returned (.tuple #[.int .i64 p, .bool b]) ∧ PosB cs k p b ∧ Below w.heap.size w w' := by
  have CH := Lib.hid (search_any A n c cs k w B hR hB hb hok)
  clear hR hok
  go_enter Try.func47, Try.ntmps47
  go_wp2_with fail
  refine CH.out.mono ?_
  rintro e w2 ⟨p, b, rfl, hP, hB2⟩
  have HP := Lib.hid hP
  clear hP CH
  go_wp2_with fail
  go_ret2
  exact ⟨p, b, rfl, HP.out, hB2⟩
end Go.Proofs.Ytlkhmpfdajefiaa.mvi

/- What the document's Get, Held, Mine (antipoderef8) come to. Conditions: those that each theorem names. -/
namespace Go.Proofs.Ytlkhmpfdajefiaa.ref8
open Go Go.RowKit Go.Proofs.Ytlkhmpfdajefiaa.kit Go.Proofs.Ytlkhmpfdajefiaa.nums Go.Proofs.Ytlkhmpfdajefiaa.st Go.Proofs.Ytlkhmpfdajefiaa.mv
set_option linter.unusedVariables false

theorem idx_find (k : ByteArray) : ∀ (cs : List CellL) (j0 : Nat), (idxF k cs j0 = -1 ∧ findF cs k = none) ∨ ∃ (i : Nat) (x : CellL), idxF k cs j0 = ((j0 + i : Nat) : Int) ∧ cs[i]? = some x ∧ findF cs k = some x
  | [], _ => .inl ⟨rfl, rfl⟩
  | x :: r, j0 => by
    rw [find_cons]
    unfold idxF
    by_cases hk : x.key = k
    · rw [if_pos hk, if_pos hk]
      exact .inr ⟨0, x, rfl, rfl, rfl⟩
    · rw [if_neg hk, if_neg hk]
      rcases idx_find k r (j0 + 1) with h | ⟨i, y, h1, h2, h3⟩
      · exact .inl h
      · exact .inr ⟨i + 1, y, by rw [h1]; congr 1; omega, h2, h3⟩
set_option maxHeartbeats 1000000 in
theorem get_any (A : Option Addr) (n c : Nat) (cs : List CellL) (k : ByteArray) (t : StL) (w : World) (B : Nat) (hR : RdC w B A n cs) (hB : B ≤ w.heap.size) (hb : n ≤ 1099511627776) (hv : ∀ x ∈ cs, x.vers.length ≤ 1099511627776) :
    Calls Try.prog 32 #[.slice A n c, .string k, .agg (stC t).toArray] w fun e w' => e = .returned (ofV (getF cs k t)) ∧ Below w.heap.size w w' := by
  have FA := Lib.hid (fun (wq : World) (h : Below w.heap.size w wq) => find_any A n c cs k wq B (hR.below (h.mono hB)) hb)
  obtain ⟨tw, tt⟩ := t
  unfold stC
  dsimp only
  have hB0 : Hid (Below w.heap.size w (w.alloc (.cells #[.int .i64 tw, .int .i64 tt] 24))) := (Below.refl _ _).alloc (Nat.le_refl _) _
  have k0 : Blk 24 (w.alloc (.cells #[.int .i64 tw, .int .i64 tt] 24)) w.heap.size [.int .i64 tw, .int .i64 tt] := heap_alloc_new w _
  have hs1 : w.heap.size < (w.alloc (.cells #[.int .i64 tw, .int .i64 tt] 24)).heap.size := k0.lt
  rcases idx_find k cs 0 with ⟨h1, h2⟩ | ⟨i, x, h1, h2, h3⟩
  · have hV : Hid (getF cs k ⟨tw, tt⟩ = none) := by unfold getF; rw [h2]; exact Lib.hid rfl
    rw [h1] at FA
    clear h1 h2
    go_enter Try.func32, Try.ntmps32
    go_wp2_with fail
    refine (FA.out _ hB0.out).mono ?_
    rintro e w2 ⟨rfl, rfl⟩
    go_wp2_with fail
    go_ret2
    exact ⟨by rw [hV.out]; rfl, hB0.out⟩
  · have hV : Hid (getF cs k ⟨tw, tt⟩ = ofF x.vers ⟨tw, tt⟩) := by unfold getF; rw [h3]; exact Lib.hid rfl
    rw [h1, Nat.zero_add] at FA
    have hi : i < n := by have := (List.getElem?_eq_some_iff.1 h2).1; rw [hR.1] at this; exact this
    obtain ⟨b, o, y, sv, rfl, hbB, hy, hS, hA⟩ := hR.at_ hi
    rw [h2] at hy
    obtain rfl := Option.some.inj hy
    have hvx := hv x (List.mem_of_getElem? h2)
    have OF := Lib.hid (fun (wq : World) (h : Below w.heap.size w wq) => of_any x sv ⟨tw, tt⟩ wq B (hS.below (h.mono hB)) (by have := h.size; omega) hvx)
    unfold cellC stC at OF
    dsimp only at OF
    have HS : Hid (∀ wq, Below (w.alloc (.cells #[.int .i64 tw, .int .i64 tt] 24)).heap.size (w.alloc (.cells #[.int .i64 tw, .int .i64 tt] 24)) wq → (wq.cell? ⟨w.heap.size, 0, none⟩ = some (.int .i64 tw) ∧ wq.cell? ⟨w.heap.size, 1, none⟩ = some (.int .i64 tt)) ∧ wq.cell? ⟨b, o + i * 12, none⟩ = some (.string x.key) ∧ wq.cell? ⟨b, o + i * 12 + 1, none⟩ = some (sv) ∧ wq.cell? ⟨b, o + i * 12 + 2, none⟩ = some (.bool x.locked) ∧ wq.cell? ⟨b, o + i * 12 + 3, none⟩ = some (.int .i64 x.lock.by_.node) ∧ wq.cell? ⟨b, o + i * 12 + 4, none⟩ = some (.int .i64 x.lock.by_.life) ∧ wq.cell? ⟨b, o + i * 12 + 5, none⟩ = some (.int .i64 x.lock.by_.seq) ∧ wq.cell? ⟨b, o + i * 12 + 6, none⟩ = some (.int .i64 x.lock.by_.att) ∧ wq.cell? ⟨b, o + i * 12 + 7, none⟩ = some (.int .i64 x.lock.home) ∧ wq.cell? ⟨b, o + i * 12 + 8, none⟩ = some (.int .i64 x.lock.at_.wall) ∧ wq.cell? ⟨b, o + i * 12 + 9, none⟩ = some (.int .i64 x.lock.at_.tie) ∧ wq.cell? ⟨b, o + i * 12 + 10, none⟩ = some (.bool x.lock.drop) ∧ wq.cell? ⟨b, o + i * 12 + 11, none⟩ = some (.string x.lock.data)) := fun wq hq => by
      have hA2 : At wq b (o + i * 12) (cellC x sv) := hA.below (show b < w.heap.size by omega) (hB0.out.trans (hq.mono hB0.out.size))
      have j0 := k0.below hq k0.lt
      exact ⟨⟨j0.cell 0, j0.cell 1⟩, hA2 0 _ rfl, hA2 1 _ rfl, hA2 2 _ rfl, hA2 3 _ rfl, hA2 4 _ rfl, hA2 5 _ rfl, hA2 6 _ rfl, hA2 7 _ rfl, hA2 8 _ rfl, hA2 9 _ rfl, hA2 10 _ rfl, hA2 11 _ rfl⟩
    clear h1 h2 h3 hR hA hS hv
    generalize ofF x.vers ⟨tw, tt⟩ = r at *
    go_enter Try.func32, Try.ntmps32
    go_upto_region 1 with (fail)
    generalize (w.alloc (.cells #[.int .i64 tw, .int .i64 tt] 24)) = w1 at *
    go_wp2_with fail
    refine (FA.out _ hB0.out).mono ?_
    rintro e w2 ⟨rfl, rfl⟩
    go_upto_region 4 with (fail)
    have q0 : Below w1.heap.size w1 w1.drew := (Below.refl _ _).drew
    refine wp_region_held_drew (S := fun wq => (wq.cell? ⟨w.heap.size, 0, none⟩ = some (.int .i64 tw) ∧ wq.cell? ⟨w.heap.size, 1, none⟩ = some (.int .i64 tt)) ∧ wq.cell? ⟨b, o + i * 12, none⟩ = some (.string x.key) ∧ wq.cell? ⟨b, o + i * 12 + 1, none⟩ = some (sv) ∧ wq.cell? ⟨b, o + i * 12 + 2, none⟩ = some (.bool x.locked) ∧ wq.cell? ⟨b, o + i * 12 + 3, none⟩ = some (.int .i64 x.lock.by_.node) ∧ wq.cell? ⟨b, o + i * 12 + 4, none⟩ = some (.int .i64 x.lock.by_.life) ∧ wq.cell? ⟨b, o + i * 12 + 5, none⟩ = some (.int .i64 x.lock.by_.seq) ∧ wq.cell? ⟨b, o + i * 12 + 6, none⟩ = some (.int .i64 x.lock.by_.att) ∧ wq.cell? ⟨b, o + i * 12 + 7, none⟩ = some (.int .i64 x.lock.home) ∧ wq.cell? ⟨b, o + i * 12 + 8, none⟩ = some (.int .i64 x.lock.at_.wall) ∧ wq.cell? ⟨b, o + i * 12 + 9, none⟩ = some (.int .i64 x.lock.at_.tie) ∧ wq.cell? ⟨b, o + i * 12 + 10, none⟩ = some (.bool x.lock.drop) ∧ wq.cell? ⟨b, o + i * 12 + 11, none⟩ = some (.string x.lock.data)) (by kernel_rfl) ?s_0 (fun hHeld => ?_)
    case s_0 => exact HS.out _ q0
    refine tk 0 { dst := some 14, op := .move (.tmp 0), type := 31, pos := "ref.go:57", after := #[], guard := none } _ ?_
    try simp only [Act.put, List.setIfInBounds_toArray, List.set_cons_zero, List.set_cons_succ]
    refine tk 1 { dst := some 15, op := .move (.tmp 8), type := 3, pos := "ref.go:57", after := #[], guard := none } _ ?_
    try simp only [Act.put, List.setIfInBounds_toArray, List.set_cons_zero, List.set_cons_succ]
    refine tk 2 { dst := some 16, op := .indexAddr 31 (.tmp 14) (.tmp 15), type := 0, pos := "ref.go:57", after := #[{ on := 0, ground := .data }, { on := 1, ground := .data }], guard := none } _ ?_
    try simp only [Act.put, List.setIfInBounds_toArray, List.set_cons_zero, List.set_cons_succ]
    refine tk 3 { dst := some 17, op := .load 45 (.tmp 16), type := 45, pos := "ref.go:57", after := #[{ on := 2, ground := .data }], guard := none } _ ?_
    try simp only [Act.put, List.setIfInBounds_toArray, List.set_cons_zero, List.set_cons_succ]
    refine tk 4 { dst := some 18, op := .load 24 (.tmp 5), type := 24, pos := "ref.go:57", after := #[], guard := none } _ ?_
    try simp only [Act.put, List.setIfInBounds_toArray, List.set_cons_zero, List.set_cons_succ]
    refine wpAnyH_ready (rs := [5]) (by kernel_rfl) (by simp) ?_
    refine AllReadyH.cons (o := { dst := some 19, op := .call { callee := .value (.func 51), args := #[.tmp 17, .tmp 18], argTypes := #[45, 24] }, type := 63, pos := "ref.go:57", after := #[{ on := 3, ground := .data }, { on := 4, ground := .data }], guard := none }) rfl (fun KQ hKQ => ?_) AllReadyH.nil
    go_simp
    refine (OF.out _ (hB0.out.trans (q0.mono hB0.out.size))).mono ?_
    rintro e y1 ⟨rfl, hY1⟩
    have q1 := q0.trans (hY1.mono q0.size)
    have r1 := HS.out _ q1
    unfold ofV
    go_wp2_with fail
    refine hKQ.out _ _ ?s_5 (fun hHeld5 => ?_)
    case s_5 => exact r1
    clear hKQ KQ
    try simp only [Act.put, List.setIfInBounds_toArray, List.set_cons_zero, List.set_cons_succ]
    refine tk 6 { dst := some 20, op := .extract (.tmp 19) 0, type := 9, pos := "ref.go:57", after := #[{ on := 5, ground := .data }], guard := none } _ ?_
    try simp only [Act.put, List.setIfInBounds_toArray, List.set_cons_zero, List.set_cons_succ]
    refine tk 7 { dst := some 21, op := .extract (.tmp 19) 1, type := 4, pos := "ref.go:57", after := #[{ on := 5, ground := .data }], guard := none } _ ?_
    try simp only [Act.put, List.setIfInBounds_toArray, List.set_cons_zero, List.set_cons_succ]
    refine tk 8 { dst := some 6, op := .assign (.tmp 20), type := 9, pos := "ref.go:57", after := #[{ on := 6, ground := .data }, { on := 5, ground := .chain }, { on := 0, ground := .phase }, { on := 1, ground := .phase }, { on := 2, ground := .phase }, { on := 3, ground := .phase }, { on := 4, ground := .phase }, { on := 5, ground := .phase }, { on := 6, ground := .phase }, { on := 7, ground := .phase }], guard := none } _ ?_
    try simp only [Act.put, List.setIfInBounds_toArray, List.set_cons_zero, List.set_cons_succ]
    refine tk 9 { dst := some 7, op := .assign (.tmp 21), type := 4, pos := "ref.go:57", after := #[{ on := 7, ground := .data }, { on := 8, ground := .chain }, { on := 0, ground := .phase }, { on := 1, ground := .phase }, { on := 2, ground := .phase }, { on := 3, ground := .phase }, { on := 4, ground := .phase }, { on := 5, ground := .phase }, { on := 6, ground := .phase }, { on := 7, ground := .phase }, { on := 8, ground := .phase }], guard := none } _ ?_
    try simp only [Act.put, List.setIfInBounds_toArray, List.set_cons_zero, List.set_cons_succ]
    refine wpAnyH_done (by kernel_rfl) ?_ _
    go_wp2_with fail
    go_ret2
    exact ⟨by rw [hV.out]; rfl, hB0.out.trans (q1.mono hB0.out.size)⟩
end Go.Proofs.Ytlkhmpfdajefiaa.ref8

/- What the document's Held and Mine (antipoderef8) come to. Conditions: those that each theorem names. -/
namespace Go.Proofs.Ytlkhmpfdajefiaa.ref8
open Go Go.RowKit Go.Proofs.Ytlkhmpfdajefiaa.kit Go.Proofs.Ytlkhmpfdajefiaa.nums Go.Proofs.Ytlkhmpfdajefiaa.st Go.Proofs.Ytlkhmpfdajefiaa.mv
set_option linter.unusedVariables false

theorem put9 {E : TypeId} {w : World} {g : Nat} {a b c d e f h i j : Value} (hK : Blk E w g [a, b, c, d, e, f, h, i, j]) (a' b' c' d' e' f' h' i' j' : Value) :
    Blk E (((((((((w.setCell ⟨g, 0, none⟩ a').setCell ⟨g, 1, none⟩ b').setCell ⟨g, 2, none⟩ c').setCell ⟨g, 3, none⟩ d').setCell ⟨g, 4, none⟩ e').setCell ⟨g, 5, none⟩ f').setCell ⟨g, 6, none⟩ h').setCell ⟨g, 7, none⟩ i').setCell ⟨g, 8, none⟩ j') g [a', b', c', d', e', f', h', i', j'] :=
  ((((((((hK.set_ 0 a').set_ 1 b').set_ 2 c').set_ 3 d').set_ 4 e').set_ 5 f').set_ 6 h').set_ 7 i').set_ 8 j'
/-- A lock, and whether there is one. -/
def lkV (r : Option LockL) : Value := .tuple #[.agg (lockC (r.getD zeroL)).toArray, .bool r.isSome]
set_option maxHeartbeats 1000000 in
theorem held_any (A : Option Addr) (n c : Nat) (cs : List CellL) (k : ByteArray) (w : World) (B : Nat) (hR : RdC w B A n cs) (hB : B ≤ w.heap.size) (hb : n ≤ 1099511627776) :
    Calls Try.prog 36 #[.slice A n c, .string k] w fun e w' => e = .returned (lkV (heldF cs k)) ∧ Below w.heap.size w w' := by
  have FA := Lib.hid (fun (wq : World) (h : Below w.heap.size w wq) => find_any A n c cs k wq B (hR.below (h.mono hB)) hb)
  have hB0 : Hid (Below w.heap.size w (w.alloc (.cells #[.int .i64 0, .int .i64 0, .int .i64 0, .int .i64 0, .int .i64 0, .int .i64 0, .int .i64 0, .bool false, .string { data := #[] }] 38))) := (Below.refl _ _).alloc (Nat.le_refl _) _
  rcases idx_find k cs 0 with ⟨h1, h2⟩ | ⟨i, x, h1, h2, h3⟩
  · have hV : Hid (heldF cs k = none) := by unfold heldF; rw [h2]; exact Lib.hid rfl
    rw [h1] at FA
    clear h1 h2
    go_enter Try.func36, Try.ntmps36
    go_wp2_with fail
    refine (FA.out _ hB0.out).mono ?_
    rintro e w2 ⟨rfl, rfl⟩
    go_wp2_with fail
    (try simp only [Exit.inBlock, Exit.then])
    refine bodyPost_ret (by simp [results, Try.results36, go_sem]; try rfl) rfl ?_
    exact ⟨by rw [hV.out]; rfl, hB0.out⟩
  · rw [h1, Nat.zero_add] at FA
    have hi : i < n := by have := (List.getElem?_eq_some_iff.1 h2).1; rw [hR.1] at this; exact this
    obtain ⟨b, o, y, sv, rfl, hbB, hy, hS, hA⟩ := hR.at_ hi
    rw [h2] at hy
    obtain rfl := Option.some.inj hy
    have hA2 : At (w.alloc (.cells #[.int .i64 0, .int .i64 0, .int .i64 0, .int .i64 0, .int .i64 0, .int .i64 0, .int .i64 0, .bool false, .string { data := #[] }] 38)) b (o + i * 12) (cellC x sv) := hA.below (show b < w.heap.size by omega) hB0.out
    have a2 : (w.alloc (.cells #[.int .i64 0, .int .i64 0, .int .i64 0, .int .i64 0, .int .i64 0, .int .i64 0, .int .i64 0, .bool false, .string { data := #[] }] 38)).cell? ⟨b, o + i * 12 + 2, none⟩ = some (.bool x.locked) := hA2 2 _ rfl
    have a3 : (w.alloc (.cells #[.int .i64 0, .int .i64 0, .int .i64 0, .int .i64 0, .int .i64 0, .int .i64 0, .int .i64 0, .bool false, .string { data := #[] }] 38)).cell? ⟨b, o + i * 12 + 3, none⟩ = some (.int .i64 x.lock.by_.node) := hA2 3 _ rfl
    have a4 : (w.alloc (.cells #[.int .i64 0, .int .i64 0, .int .i64 0, .int .i64 0, .int .i64 0, .int .i64 0, .int .i64 0, .bool false, .string { data := #[] }] 38)).cell? ⟨b, o + i * 12 + 4, none⟩ = some (.int .i64 x.lock.by_.life) := hA2 4 _ rfl
    have a5 : (w.alloc (.cells #[.int .i64 0, .int .i64 0, .int .i64 0, .int .i64 0, .int .i64 0, .int .i64 0, .int .i64 0, .bool false, .string { data := #[] }] 38)).cell? ⟨b, o + i * 12 + 5, none⟩ = some (.int .i64 x.lock.by_.seq) := hA2 5 _ rfl
    have a6 : (w.alloc (.cells #[.int .i64 0, .int .i64 0, .int .i64 0, .int .i64 0, .int .i64 0, .int .i64 0, .int .i64 0, .bool false, .string { data := #[] }] 38)).cell? ⟨b, o + i * 12 + 6, none⟩ = some (.int .i64 x.lock.by_.att) := hA2 6 _ rfl
    have a7 : (w.alloc (.cells #[.int .i64 0, .int .i64 0, .int .i64 0, .int .i64 0, .int .i64 0, .int .i64 0, .int .i64 0, .bool false, .string { data := #[] }] 38)).cell? ⟨b, o + i * 12 + 7, none⟩ = some (.int .i64 x.lock.home) := hA2 7 _ rfl
    have a8 : (w.alloc (.cells #[.int .i64 0, .int .i64 0, .int .i64 0, .int .i64 0, .int .i64 0, .int .i64 0, .int .i64 0, .bool false, .string { data := #[] }] 38)).cell? ⟨b, o + i * 12 + 8, none⟩ = some (.int .i64 x.lock.at_.wall) := hA2 8 _ rfl
    have a9 : (w.alloc (.cells #[.int .i64 0, .int .i64 0, .int .i64 0, .int .i64 0, .int .i64 0, .int .i64 0, .int .i64 0, .bool false, .string { data := #[] }] 38)).cell? ⟨b, o + i * 12 + 9, none⟩ = some (.int .i64 x.lock.at_.tie) := hA2 9 _ rfl
    have a10 : (w.alloc (.cells #[.int .i64 0, .int .i64 0, .int .i64 0, .int .i64 0, .int .i64 0, .int .i64 0, .int .i64 0, .bool false, .string { data := #[] }] 38)).cell? ⟨b, o + i * 12 + 10, none⟩ = some (.bool x.lock.drop) := hA2 10 _ rfl
    have a11 : (w.alloc (.cells #[.int .i64 0, .int .i64 0, .int .i64 0, .int .i64 0, .int .i64 0, .int .i64 0, .int .i64 0, .bool false, .string { data := #[] }] 38)).cell? ⟨b, o + i * 12 + 11, none⟩ = some (.string x.lock.data) := hA2 11 _ rfl
    have hbl : b < w.heap.size := by omega
    clear h1 h2 hR hA hS hA2
    cases hl : x.locked with
    | false =>
      have hV : Hid (heldF cs k = none) := by unfold heldF; rw [h3]; simp [hl, Hid]
      rw [hl] at a2
      clear h3
      go_enter Try.func36, Try.ntmps36
      go_wp2_with fail
      refine (FA.out _ hB0.out).mono ?_
      rintro e w2 ⟨rfl, rfl⟩
      go_wp2_with fail
      (try simp only [Exit.inBlock, Exit.then])
      refine bodyPost_ret (by simp [results, Try.results36, go_sem]; try rfl) rfl ?_
      exact ⟨by rw [hV.out]; rfl, hB0.out⟩
    | true =>
      have hV : Hid (heldF cs k = some x.lock) := by unfold heldF; rw [h3]; simp [hl, Hid]
      rw [hl] at a2
      clear h3
      go_enter Try.func36, Try.ntmps36
      go_wp2_with fail
      refine (FA.out _ hB0.out).mono ?_
      rintro e w2 ⟨rfl, rfl⟩
      go_wp2_with fail
      (try simp only [Exit.inBlock, Exit.then])
      refine bodyPost_ret (by simp [results, Try.results36, go_sem]; try rfl) rfl ?_
      exact ⟨by rw [hV.out]; rfl, (Below.refl _ _).alloc (Nat.le_refl _) _⟩
theorem eq_tr (a b : TrL) (w : World) : (binOp BinOp.eql 28 (.agg #[.int .i64 a.node, .int .i64 a.life, .int .i64 a.seq, .int .i64 a.att]) (.agg #[.int .i64 b.node, .int .i64 b.life, .int .i64 b.seq, .int .i64 b.att])).run Try.prog w = .ok (.bool (decide (a = b))) w := by
  obtain ⟨p, q, r, s⟩ := a
  obtain ⟨p', q', r', s'⟩ := b
  by_cases h1 : p = p' <;> by_cases h2 : q = q' <;> by_cases h3 : r = r' <;> by_cases h4 : s = s'
  all_goals go_simp
theorem mine_step (cs : List CellL) (t : TrL) (j : Nat) (x : CellL) (hx : cs[j]? = some x) : mineF (cs.drop j) t = ((x.locked && decide (x.lock.by_ = t)) || mineF (cs.drop (j + 1)) t) := by
  obtain ⟨hj, rfl⟩ := List.getElem?_eq_some_iff.1 hx
  rw [List.drop_eq_getElem_cons hj]
  rfl
set_option maxHeartbeats 1000000 in
theorem mine_any (A : Option Addr) (n c : Nat) (cs : List CellL) (t : TrL) (w : World) (B : Nat) (hR : RdC w B A n cs) (hB : B ≤ w.heap.size) (hb : n ≤ 1099511627776) :
    Calls Try.prog 37 #[.slice A n c, .agg (trC t).toArray] w fun e w' => e = .returned (.bool (mineF cs t)) ∧ Below w.heap.size w w' := by
  have HR := Lib.hid (fun j (hj : j < n) => hR.at_ hj)
  have HI := Lib.hid (mine_step cs t)
  have HL := Lib.hid hR.1
  have HE := Lib.hid (fun (a : TrL) w => eq_tr a t w)
  clear hR
  obtain ⟨z, hz⟩ : ∃ z, mineF cs t = z := ⟨_, rfl⟩
  rw [hz]
  have HZ : Hid (z = mineF (cs.drop 0) t) := hz.symm
  clear hz
  unfold trC
  have hB0 : Hid (Below w.heap.size w (w.alloc (.cells #[.int .i64 t.node, .int .i64 t.life, .int .i64 t.seq, .int .i64 t.att] 28))) := (Below.refl _ _).alloc (Nat.le_refl _) _
  have k0 : Blk 28 (w.alloc (.cells #[.int .i64 t.node, .int .i64 t.life, .int .i64 t.seq, .int .i64 t.att] 28)) w.heap.size [.int .i64 t.node, .int .i64 t.life, .int .i64 t.seq, .int .i64 t.att] := heap_alloc_new w _
  have t0 := k0.cell 0
  have t1 := k0.cell 1
  have t2 := k0.cell 2
  have t3 := k0.cell 3
  simp only [List.getElem?_cons_zero, List.getElem?_cons_succ] at t0 t1 t2 t3
  go_enter Try.func37, Try.ntmps37
  go_upto_region 1 with (fail)
  generalize (w.alloc (.cells #[.int .i64 t.node, .int .i64 t.life, .int .i64 t.seq, .int .i64 t.att] 28)) = w1 at *
  go_wp2_with fail
  go_loopw [5] (fun iv wr => ∃ j q : Nat, j ≤ n ∧ iv = .int .i64 j ∧ Hid (z = mineF (cs.drop j) t) ∧ wr = w1.drewN q) (fun iv _ => n - (intOf iv).toNat)
  case atStart => exact ⟨0, 0, Nat.zero_le _, rfl, HZ, rfl⟩
  case round =>
    obtain ⟨j, q, hj, rfl, hI, rfl⟩ := hrel
    by_cases hlt : j < n
    · obtain ⟨b, o, x, sv, rfl, hbB, hx, hS, hA⟩ := HR.out j hlt
      have hA2 : At w1 b (o + j * 12) (cellC x sv) := hA.below (show b < w.heap.size by omega) hB0.out
      have a2 : w1.cell? ⟨b, o + j * 12 + 2, none⟩ = some (.bool x.locked) := hA2 2 _ rfl
      have a3 : w1.cell? ⟨b, o + j * 12 + 3, none⟩ = some (.int .i64 x.lock.by_.node) := hA2 3 _ rfl
      have a4 : w1.cell? ⟨b, o + j * 12 + 4, none⟩ = some (.int .i64 x.lock.by_.life) := hA2 4 _ rfl
      have a5 : w1.cell? ⟨b, o + j * 12 + 5, none⟩ = some (.int .i64 x.lock.by_.seq) := hA2 5 _ rfl
      have a6 : w1.cell? ⟨b, o + j * 12 + 6, none⟩ = some (.int .i64 x.lock.by_.att) := hA2 6 _ rfl
      have hI2 := hI.out.trans (HI.out j x hx)
      have he := HE.out x.lock.by_
      clear hI hA hA2 hS hx
      cases hl : x.locked with
      | false =>
        rw [hl] at a2 hI2
        have hV : Hid (z = mineF (cs.drop (j + 1)) t) := by rw [hI2]; simp [Hid]
        clear hI2
        go_wp2_with fail
        go_quiet (fail)
        go_wp2_with fail
        go_roundw
        case rel => exact ⟨j + 1, _, by omega, by go_num, hV, rfl⟩
        case measure => simp [intOf]; omega
      | true =>
        rw [hl] at a2 hI2
        by_cases ht : x.lock.by_ = t
        · have hV : Hid (z = true) := by rw [hI2]; simp [ht, Hid]
          simp only [ht, decide_true] at he
          clear hI2
          go_wp2_with fail
          go_quiet (fail)
          go_wp2_with fail
          go_ret
          exact ⟨by rw [hV.out]; rfl, below_drewN (below_drewN hB0.out _) _⟩
        · have hV : Hid (z = mineF (cs.drop (j + 1)) t) := by rw [hI2]; simp [ht, Hid]
          simp only [ht, decide_false] at he
          clear hI2
          go_wp2_with fail
          go_quiet (fail)
          go_wp2_with fail
          go_roundw
          case rel => exact ⟨j + 1, _, by omega, by go_num, hV, rfl⟩
          case measure => simp [intOf]; omega
    · obtain rfl : j = n := by omega
      have hV : Hid (z = false) := by rw [hI.out, List.drop_of_length_le (by rw [HL.out]; exact Nat.le_refl _)]; exact Lib.hid rfl
      go_wp2_with fail
      go_ret
      exact ⟨by rw [hV.out]; rfl, below_drewN hB0.out _⟩
end Go.Proofs.Ytlkhmpfdajefiaa.ref8

/- Equality of locks and of versions in the document's Same and May (antipoderef8). Conditions: none. -/
namespace Go.Proofs.Ytlkhmpfdajefiaa.ref8
open Go Go.RowKit Go.Proofs.Ytlkhmpfdajefiaa.kit Go.Proofs.Ytlkhmpfdajefiaa.nums Go.Proofs.Ytlkhmpfdajefiaa.st Go.Proofs.Ytlkhmpfdajefiaa.mv
set_option linter.unusedVariables false
set_option linter.unusedSimpArgs false

theorem text_iff (a b : ByteArray) : (a.toList = b.toList) = (a = b) := by
  have h := text_eq a b
  by_cases hab : a = b
  · subst hab; simp
  · rw [decide_eq_false hab] at h
    simp only [hab, eq_iff_iff, iff_false]
    intro he
    rw [he] at h
    simp at h
theorem ne_ver (a b : VerL) (w : World) : (binOp BinOp.neq 47 (.agg (verC a).toArray) (.agg (verC b).toArray)).run Try.prog w = .ok (.bool (!decide (a = b))) w := by
  obtain ⟨⟨p, q⟩, r, s⟩ := a
  obtain ⟨⟨p', q'⟩, r', s'⟩ := b
  unfold verC
  go_simp
  simp only [text_iff]
  by_cases h1 : p = p' <;> simp only [h1, if_true, if_false, decide_true, decide_false, Bool.not_true, Bool.not_false, Bool.false_or, Bool.true_or]
  by_cases h2 : q = q' <;> simp only [h2, if_true, if_false, decide_true, decide_false, Bool.not_true, Bool.not_false, Bool.false_or, Bool.true_or]
  by_cases h3 : r = r' <;> simp only [h3, if_true, if_false, decide_true, decide_false, Bool.not_true, Bool.not_false, Bool.false_or, Bool.true_or]
  by_cases h4 : s = s' <;> simp only [h4, if_true, if_false, decide_true, decide_false, Bool.not_true, Bool.not_false, Bool.false_or, Bool.true_or]
theorem ne_lk (a b : LockL) (w : World) : (binOp BinOp.neq 38 (.agg (lockC a).toArray) (.agg (lockC b).toArray)).run Try.prog w = .ok (.bool (!decide (a = b))) w := by
  obtain ⟨⟨p, q, r, s⟩, t, ⟨u, v⟩, x, y⟩ := a
  obtain ⟨⟨p', q', r', s'⟩, t', ⟨u', v'⟩, x', y'⟩ := b
  unfold lockC
  go_simp
  simp only [text_iff]
  by_cases h1 : p = p' <;> simp only [h1, if_true, if_false, decide_true, decide_false, Bool.not_true, Bool.not_false, Bool.false_or, Bool.true_or, Bool.or_true, Bool.or_false]
  by_cases h2 : q = q' <;> simp only [h2, if_true, if_false, decide_true, decide_false, Bool.not_true, Bool.not_false, Bool.false_or, Bool.true_or, Bool.or_true, Bool.or_false]
  by_cases h3 : r = r' <;> simp only [h3, if_true, if_false, decide_true, decide_false, Bool.not_true, Bool.not_false, Bool.false_or, Bool.true_or, Bool.or_true, Bool.or_false]
  by_cases h4 : s = s' <;> simp only [h4, if_true, if_false, decide_true, decide_false, Bool.not_true, Bool.not_false, Bool.false_or, Bool.true_or, Bool.or_true, Bool.or_false]
  by_cases h5 : t = t' <;> simp only [h5, if_true, if_false, decide_true, decide_false, Bool.not_true, Bool.not_false, Bool.false_or, Bool.true_or, Bool.or_true, Bool.or_false]
  by_cases h6 : u = u' <;> simp only [h6, if_true, if_false, decide_true, decide_false, Bool.not_true, Bool.not_false, Bool.false_or, Bool.true_or, Bool.or_true, Bool.or_false]
  by_cases h7 : v = v' <;> simp only [h7, if_true, if_false, decide_true, decide_false, Bool.not_true, Bool.not_false, Bool.false_or, Bool.true_or, Bool.or_true, Bool.or_false]
  by_cases h8 : x = x' <;> simp only [h8, if_true, if_false, decide_true, decide_false, Bool.not_true, Bool.not_false, Bool.false_or, Bool.true_or, Bool.or_true, Bool.or_false]
  by_cases h9 : y = y' <;> simp only [h9, if_true, if_false, decide_true, decide_false, Bool.not_true, Bool.not_false, Bool.false_or, Bool.true_or, Bool.or_true, Bool.or_false]
end Go.Proofs.Ytlkhmpfdajefiaa.ref8

/- What the document's Copy (antipoderef8) comes to. Conditions: few cells, few versions. -/
namespace Go.Proofs.Ytlkhmpfdajefiaa.ref8
open Go Go.RowKit Go.Proofs.Ytlkhmpfdajefiaa.kit Go.Proofs.Ytlkhmpfdajefiaa.nums Go.Proofs.Ytlkhmpfdajefiaa.st Go.Proofs.Ytlkhmpfdajefiaa.mv
set_option linter.unusedVariables false

/-- What a call ends in that hands back cells of its own. -/
def RetCs (W : World) (cs : List CellL) (e : Ending) (w' : World) : Prop := ∃ A c, e = .returned (.slice A cs.length c) ∧ OwnCs w' W.heap.size (.slice A cs.length c) cs ∧ Below W.heap.size W w'
/-- Few cells, few versions. -/
def Few (cs : List CellL) : Prop := cs.length ≤ 1000 ∧ ∀ x ∈ cs, x.vers.length ≤ 1000
theorem OwnVs.empty (w : World) {base : Nat} (hb : base ≤ w.heap.size) : OwnVs (w.alloc (.cells #[] 47)) base (.slice (some ⟨w.heap.size, 0, none⟩) 0 0) [] :=
  World.ownsRow_made w #[] 0 hb (by omega) rfl
set_option maxRecDepth 100000 in
set_option maxHeartbeats 2000000 in
theorem copy_any (A : Option Addr) (n c : Nat) (cs : List CellL) (w : World) (B : Nat) (hR : RdC w B A n cs) (hB : B ≤ w.heap.size) (hf : Few cs) :
    Calls Try.prog 13 #[.slice A n c] w (RetCs w cs) := by
  have HR := Lib.hid (fun j (hj : j < n) => hR.at_ hj)
  have hn : cs.length = n := hR.1
  have hn2 : n ≤ 1000 := by rw [← hn]; exact hf.1
  have HF := Lib.hid hf.2
  have HN := Lib.hid hn
  unfold RetCs
  rw [hn]
  clear hR hf hn
  go_enter Try.func13, Try.ntmps13
  go_wp2_with fail
  go_loopw [3, 4] (fun ov iv wr => ∃ (j : Nat) (A' : Option Addr) (c' : Nat), j ≤ n ∧ iv = .int .i64 j ∧ ov = .slice A' j c' ∧ OwnCs wr w.heap.size (.slice A' j c') (cs.take j) ∧ Below w.heap.size w wr) (fun _ iv _ => n - (intOf iv).toNat)
  case atStart => exact ⟨0, none, 0, Nat.zero_le _, rfl, rfl, OwnCs.nil _ _, Below.refl _ _⟩
  case round =>
    obtain ⟨j, A', c', hj, rfl, rfl, hO, hBr⟩ := hrel
    have hsr := hBr.size
    by_cases hlt : j < n
    · obtain ⟨b, o, x, sv, rfl, hbB, hx, hS, hA⟩ := HR.out j hlt
      have hvx := HF.out x (List.mem_of_getElem? hx)
      have HX : Hid (cs.take (j + 1) = cs.take j ++ [x]) := by
        obtain ⟨hjl, rfl⟩ := List.getElem?_eq_some_iff.1 hx
        exact List.take_succ_eq_append_getElem hjl
      have HT : Hid ((cs.take j).length = j) := by rw [List.length_take, HN.out]; exact Lib.hid (by omega)
      obtain ⟨As, c0, rfl, hc1, hc2, hRv⟩ := hS
      have hA2 : At wr b (o + j * 12) (cellC x (.slice As x.vers.length c0)) := hA.below (show b < w.heap.size by omega) hBr
      have a0 : wr.cell? ⟨b, o + j * 12, none⟩ = some (.string x.key) := hA2 0 _ rfl
      have a1 : wr.cell? ⟨b, o + j * 12 + 1, none⟩ = some (.slice As x.vers.length c0) := hA2 1 _ rfl
      have a2 : wr.cell? ⟨b, o + j * 12 + 2, none⟩ = some (.bool x.locked) := hA2 2 _ rfl
      have a3 : wr.cell? ⟨b, o + j * 12 + 3, none⟩ = some (.int .i64 x.lock.by_.node) := hA2 3 _ rfl
      have a4 : wr.cell? ⟨b, o + j * 12 + 4, none⟩ = some (.int .i64 x.lock.by_.life) := hA2 4 _ rfl
      have a5 : wr.cell? ⟨b, o + j * 12 + 5, none⟩ = some (.int .i64 x.lock.by_.seq) := hA2 5 _ rfl
      have a6 : wr.cell? ⟨b, o + j * 12 + 6, none⟩ = some (.int .i64 x.lock.by_.att) := hA2 6 _ rfl
      have a7 : wr.cell? ⟨b, o + j * 12 + 7, none⟩ = some (.int .i64 x.lock.home) := hA2 7 _ rfl
      have a8 : wr.cell? ⟨b, o + j * 12 + 8, none⟩ = some (.int .i64 x.lock.at_.wall) := hA2 8 _ rfl
      have a9 : wr.cell? ⟨b, o + j * 12 + 9, none⟩ = some (.int .i64 x.lock.at_.tie) := hA2 9 _ rfl
      have a10 : wr.cell? ⟨b, o + j * 12 + 10, none⟩ = some (.bool x.lock.drop) := hA2 10 _ rfl
      have a11 : wr.cell? ⟨b, o + j * 12 + 11, none⟩ = some (.string x.lock.data) := hA2 11 _ rfl
      have hRv1 := hRv.below (hBr.mono hB)
      clear hA hA2 hx hRv
      have kx : Blk 45 (wr.alloc (.cells #[.string x.key, .slice As x.vers.length c0, .bool x.locked, .int .i64 x.lock.by_.node, .int .i64 x.lock.by_.life, .int .i64 x.lock.by_.seq, .int .i64 x.lock.by_.att, .int .i64 x.lock.home, .int .i64 x.lock.at_.wall, .int .i64 x.lock.at_.tie, .bool x.lock.drop, .string x.lock.data] 45)) wr.heap.size [.string x.key, .slice As x.vers.length c0, .bool x.locked, .int .i64 x.lock.by_.node, .int .i64 x.lock.by_.life, .int .i64 x.lock.by_.seq, .int .i64 x.lock.by_.att, .int .i64 x.lock.home, .int .i64 x.lock.at_.wall, .int .i64 x.lock.at_.tie, .bool x.lock.drop, .string x.lock.data] := heap_alloc_new wr _
      have hBx := hBr.alloc hsr (.cells #[.string x.key, .slice As x.vers.length c0, .bool x.locked, .int .i64 x.lock.by_.node, .int .i64 x.lock.by_.life, .int .i64 x.lock.by_.seq, .int .i64 x.lock.by_.att, .int .i64 x.lock.home, .int .i64 x.lock.at_.wall, .int .i64 x.lock.at_.tie, .bool x.lock.drop, .string x.lock.data] 45)
      have hyw : Hid (∀ q, q < wr.heap.size → (wr.alloc (.cells #[.string x.key, .slice As x.vers.length c0, .bool x.locked, .int .i64 x.lock.by_.node, .int .i64 x.lock.by_.life, .int .i64 x.lock.by_.seq, .int .i64 x.lock.by_.att, .int .i64 x.lock.home, .int .i64 x.lock.at_.wall, .int .i64 x.lock.at_.tie, .bool x.lock.drop, .string x.lock.data] 45)).heap[q]? = wr.heap[q]?) := fun q hq => heap_alloc_old wr _ hq
      have hRvx := hRv1.below ((Below.refl _ _).alloc (show B ≤ wr.heap.size by omega) (.cells #[.string x.key, .slice As x.vers.length c0, .bool x.locked, .int .i64 x.lock.by_.node, .int .i64 x.lock.by_.life, .int .i64 x.lock.by_.seq, .int .i64 x.lock.by_.att, .int .i64 x.lock.home, .int .i64 x.lock.at_.wall, .int .i64 x.lock.at_.tie, .bool x.lock.drop, .string x.lock.data] 45))
      go_upto_region 6 with (fail)
      obtain ⟨g, hg⟩ : ∃ g, wr.heap.size = g := ⟨_, rfl⟩
      rw [hg] at kx hyw ⊢
      have hgw : w.heap.size ≤ g := by omega
      generalize (wr.alloc (.cells #[.string x.key, .slice As x.vers.length c0, .bool x.locked, .int .i64 x.lock.by_.node, .int .i64 x.lock.by_.life, .int .i64 x.lock.by_.seq, .int .i64 x.lock.by_.att, .int .i64 x.lock.home, .int .i64 x.lock.at_.wall, .int .i64 x.lock.at_.tie, .bool x.lock.drop, .string x.lock.data] 45)) = y at *
      have hyl := kx.lt
      have d0 := kx.cell 0
      have d1 := kx.cell 1
      have d2 := kx.cell 2
      have d3 := kx.cell 3
      have d4 := kx.cell 4
      have d5 := kx.cell 5
      have d6 := kx.cell 6
      have d7 := kx.cell 7
      have d8 := kx.cell 8
      have d9 := kx.cell 9
      have d10 := kx.cell 10
      have d11 := kx.cell 11
      simp only [List.getElem?_cons_zero, List.getElem?_cons_succ] at d0 d1 d2 d3 d4 d5 d6 d7 d8 d9 d10 d11
      have hE := OwnVs.empty y (base := y.heap.size) (Nat.le_refl _)
      have hRvy := hRvx.below ((Below.refl _ _).alloc (show B ≤ y.heap.size by omega) (.cells #[] 47))
      clear a0 a1 a2 a3 a4 a5 a6 a7 a8 a9 a10 a11 hRv1 hRvx hBr
      go_wp2_with (at_builtin; with_reducible refine wpList_append_vers rfl (.tmp 16) (.tmp 18) rfl y.heap.size _ 0 0 [] rfl rfl hE B As x.vers.length c0 x.vers rfl hRvy ?hb1 ?hbase1 ?_)
      case hb1 => omega
      case hbase1 => simp
      intro A2 c2 z hO2 hB2 _
      have hy1 := (Below.refl y.heap.size y).alloc (Nat.le_refl _) (.cells #[] 47)
      have hyz : Below y.heap.size y z := hy1.trans hB2
      have kz := kx.below hyz hyl
      (try simp only [Nat.zero_add, List.nil_append] at hO2)
      clear d0 d1 d2 d3 d4 d5 d6 d7 d8 d9 d10 d11 hB2 hy1 hE hRvy
      have z0 := kz.cell 0
      have z1 := kz.cell 1
      have z2 := kz.cell 2
      have z3 := kz.cell 3
      have z4 := kz.cell 4
      have z5 := kz.cell 5
      have z6 := kz.cell 6
      have z7 := kz.cell 7
      have z8 := kz.cell 8
      have z9 := kz.cell 9
      have z10 := kz.cell 10
      have z11 := kz.cell 11
      simp only [List.getElem?_cons_zero, List.getElem?_cons_succ] at z0 z1 z2 z3 z4 z5 z6 z7 z8 z9 z10 z11
      have df := fun i => kz.frozen i
      go_upto_region 7 with (fail)
      have kz1 : Blk 45 (z.setCell ⟨g, 1, none⟩ (.slice A2 x.vers.length c2)) g [.string x.key, .slice A2 x.vers.length c2, .bool x.locked, .int .i64 x.lock.by_.node, .int .i64 x.lock.by_.life, .int .i64 x.lock.by_.seq, .int .i64 x.lock.by_.att, .int .i64 x.lock.home, .int .i64 x.lock.at_.wall, .int .i64 x.lock.at_.tie, .bool x.lock.drop, .string x.lock.data] := kz.set_ 1 _
      have hBz : Below w.heap.size w (z.setCell ⟨g, 1, none⟩ (.slice A2 x.vers.length c2)) := (hBx.trans (hyz.mono hBx.size)).setCell (p := ⟨g, 1, none⟩) hgw _
      have hsz : ∀ q, q ≠ g → (z.setCell ⟨g, 1, none⟩ (.slice A2 x.vers.length c2)).heap[q]? = z.heap[q]? := fun q hq => Below.heap_setCell z ⟨g, 1, none⟩ _ q hq
      have hOz : OwnCs (z.setCell ⟨g, 1, none⟩ (.slice A2 x.vers.length c2)) w.heap.size (.slice A' j c') (cs.take j) := hO.keep fun q _ hq => by
        rw [hsz q (by omega), hyz.block q (by omega)]
        exact hyw.out q (by omega)
      have hVz : VsIn (z.setCell ⟨g, 1, none⟩ (.slice A2 x.vers.length c2)) w.heap.size (.slice A2 x.vers.length c2) x.vers := (hO2.vsIn.keep fun q cur hq _ => hsz q (by omega)).more (by omega)
      clear kz hO2 hsz hyw hyz df z0 z1 z2 z3 z4 z5 z6 z7 z8 z9 z10 z11
      generalize (z.setCell ⟨g, 1, none⟩ (.slice A2 x.vers.length c2)) = z1 at *
      have hs1 := hBz.size
      have y0 := kz1.cell 0
      have y1 := kz1.cell 1
      have y2 := kz1.cell 2
      have y3 := kz1.cell 3
      have y4 := kz1.cell 4
      have y5 := kz1.cell 5
      have y6 := kz1.cell 6
      have y7 := kz1.cell 7
      have y8 := kz1.cell 8
      have y9 := kz1.cell 9
      have y10 := kz1.cell 10
      have y11 := kz1.cell 11
      simp only [List.getElem?_cons_zero, List.getElem?_cons_succ] at y0 y1 y2 y3 y4 y5 y6 y7 y8 y9 y10 y11
      have kn : Blk 45 (z1.alloc (.cells #[.string x.key, .slice A2 x.vers.length c2, .bool x.locked, .int .i64 x.lock.by_.node, .int .i64 x.lock.by_.life, .int .i64 x.lock.by_.seq, .int .i64 x.lock.by_.att, .int .i64 x.lock.home, .int .i64 x.lock.at_.wall, .int .i64 x.lock.at_.tie, .bool x.lock.drop, .string x.lock.data] 45)) z1.heap.size [.string x.key, .slice A2 x.vers.length c2, .bool x.locked, .int .i64 x.lock.by_.node, .int .i64 x.lock.by_.life, .int .i64 x.lock.by_.seq, .int .i64 x.lock.by_.att, .int .i64 x.lock.home, .int .i64 x.lock.at_.wall, .int .i64 x.lock.at_.tie, .bool x.lock.drop, .string x.lock.data] := heap_alloc_new z1 _
      have hAn : At (z1.alloc (.cells #[.string x.key, .slice A2 x.vers.length c2, .bool x.locked, .int .i64 x.lock.by_.node, .int .i64 x.lock.by_.life, .int .i64 x.lock.by_.seq, .int .i64 x.lock.by_.att, .int .i64 x.lock.home, .int .i64 x.lock.at_.wall, .int .i64 x.lock.at_.tie, .bool x.lock.drop, .string x.lock.data] 45)) z1.heap.size 0 (cellC x (.slice A2 x.vers.length c2)) := fun q u hu => by
        rw [Nat.zero_add, kn.cell q]
        exact hu
      have ha1 := (Below.refl z1.heap.size z1).alloc (Nat.le_refl _) (.cells #[.string x.key, .slice A2 x.vers.length c2, .bool x.locked, .int .i64 x.lock.by_.node, .int .i64 x.lock.by_.life, .int .i64 x.lock.by_.seq, .int .i64 x.lock.by_.att, .int .i64 x.lock.home, .int .i64 x.lock.at_.wall, .int .i64 x.lock.at_.tie, .bool x.lock.drop, .string x.lock.data] 45)
      have hOn := hOz.below ha1
      have hVn := hVz.below ha1
      have hBn := hBz.alloc hs1 (.cells #[.string x.key, .slice A2 x.vers.length c2, .bool x.locked, .int .i64 x.lock.by_.node, .int .i64 x.lock.by_.life, .int .i64 x.lock.by_.seq, .int .i64 x.lock.by_.att, .int .i64 x.lock.home, .int .i64 x.lock.at_.wall, .int .i64 x.lock.at_.tie, .bool x.lock.drop, .string x.lock.data] 45)
      have hTl := HT.out
      clear hOz hVz hBx hO hyl kn ha1
      go_wp2_with (at_builtin; with_reducible refine wpList_append_cell rfl (.tmp 21) (.tmp 23) rfl w.heap.size A' j c' (cs.take j) hTl rfl hOn (z1.heap.size + 1) z1.heap.size 0 1 x (.slice A2 x.vers.length c2) rfl (Nat.lt_succ_self _) hAn hVn ?hb2 ?hbase2 ?_)
      case hb2 => omega
      case hbase2 => simp; omega
      intro A3 c3 w5 hO5 hB5 _
      rw [← HX.out] at hO5
      have hB15 := hBn.trans hB5
      go_wp2_with fail
      go_roundw
      case rel => exact ⟨j + 1, A3, c3, by omega, by go_num, rfl, hO5, hB15⟩
      case measure => simp [intOf]; omega
    · obtain rfl : j = n := by omega
      rw [List.take_of_length_le (by rw [HN.out]; exact Nat.le_refl _)] at hO
      go_wp2_with fail
      go_ret
      exact ⟨A', c', rfl, hO, hBr⟩
end Go.Proofs.Ytlkhmpfdajefiaa.ref8

/- Slices of cells of keys: what a slice expression leaves, append of several cells, a lock written in place (stage 8). Conditions: those that each theorem names. -/
namespace Go.Proofs.Ytlkhmpfdajefiaa.kit
open Go Go.RowKit Go.Proofs.Ytlkhmpfdajefiaa.nums Go.Proofs.Ytlkhmpfdajefiaa.st Go.Proofs.Ytlkhmpfdajefiaa.mv
set_option linter.unusedVariables false

section
variable {α : Type} (f : α → List Value) (k : Nat) (hf : ∀ x, (f x).length = k)
include hf
theorem row_take : ∀ (l : List α) (i : Nat), (l.take i).flatMap f = (l.flatMap f).take (i * k)
  | [], i => by simp
  | x :: l, 0 => by simp
  | x :: l, i + 1 => by
    rw [List.take_succ_cons, List.flatMap_cons, List.flatMap_cons, row_take l i, Nat.succ_mul, Nat.add_comm, List.take_append (l₁ := f x), hf, Nat.add_sub_cancel_left, List.take_of_length_le (l := f x) (by rw [hf]; omega)]
theorem row_drop : ∀ (l : List α) (i : Nat), (l.drop i).flatMap f = (l.flatMap f).drop (i * k)
  | [], i => by simp
  | x :: l, 0 => by simp
  | x :: l, i + 1 => by
    rw [List.drop_succ_cons, List.flatMap_cons, row_drop l i, Nat.succ_mul, Nat.add_comm, List.drop_append (l₁ := f x), hf, Nat.add_sub_cancel_left, List.drop_of_length_le (l := f x) (by rw [hf]; omega), List.nil_append]
theorem row_set : ∀ (l : List α) (i q : Nat) (x y : α) (u : Value), l[i]? = some x → q < k → f y = (f x).set q u → (l.flatMap f).set (i * k + q) u = (l.set i y).flatMap f
  | [], i, q, x, y, u, h, _, _ => by cases h
  | z :: l, 0, q, x, y, u, h, hq, hy => by
    obtain rfl := Option.some.inj h
    rw [List.set_cons_zero, List.flatMap_cons, List.flatMap_cons, Nat.zero_mul, Nat.zero_add, List.set_append, if_pos (by rw [hf]; exact hq), hy]
  | z :: l, i + 1, q, x, y, u, h, hq, hy => by
    have hs := row_set l i q x y u h hq hy
    rw [List.set_cons_succ, List.flatMap_cons, List.flatMap_cons, List.set_append, if_neg (by rw [hf, Nat.succ_mul]; omega), hf, show (i + 1) * k + q - k = i * k + q by rw [Nat.succ_mul]; omega, hs]
end
/-- The slice at A with m elements reads as the cells us, below block B; their versions in blocks from vb on. -/
def CsIn (w : World) (B vb : Nat) (A : Option Addr) (m : Nat) (us : List CellL) : Prop :=
  ∃ svs : List Value, svs.length = us.length ∧ RdK w B A m 12 ((us.zip svs).flatMap fun p => cellC p.1 p.2) ∧ ∀ (j : Nat) (x : CellL) (sv : Value), us[j]? = some x → svs[j]? = some sv → VsIn w vb sv x.vers
section
variable {w w' : World} {base base' vb B : Nat}
theorem RdK.below {A : Option Addr} {m k : Nat} {l : List Value} (h : RdK w B A m k l) (hb : Below B w w') : RdK w' B A m k l :=
  ⟨h.1, fun hm => by
    obtain ⟨b, o, e, hlt, ha⟩ := h.2 hm
    exact ⟨b, o, e, hlt, ha.below hlt hb⟩⟩
theorem CsIn.below {A : Option Addr} {m : Nat} {us : List CellL} (h : CsIn w w.heap.size vb A m us) (hb : Below w.heap.size w w') : CsIn w' w.heap.size vb A m us := by
  obtain ⟨svs, h1, h2, h3⟩ := h
  exact ⟨svs, h1, h2.below hb, fun j x sv hx hs => (h3 j x sv hx hs).below hb⟩
theorem OwnCs.two {v : Value} {cs : List CellL} (h : OwnCs w base v cs) : OwnCs2 w base base v cs := h
theorem zip_take {β γ : Type} (l : List β) (m : List γ) (i : Nat) : (l.take i).zip (m.take i) = (l.zip m).take i := by
  rw [List.zip_eq_zipWith, List.zip_eq_zipWith, List.take_zipWith]
theorem zip_drop {β γ : Type} (l : List β) (m : List γ) (i : Nat) : (l.drop i).zip (m.drop i) = (l.zip m).drop i := by
  rw [List.zip_eq_zipWith, List.zip_eq_zipWith, List.drop_zipWith]
/-- 's[:i]' and 's[i:]' of an own slice read so. -/
theorem OwnCs.cuts {A : Option Addr} {n c i : Nat} {cs : List CellL} (h : OwnCs w base (.slice A n c) cs) (hn : cs.length = n) (hi : i ≤ n) :
    CsIn w w.heap.size base A i (cs.take i) ∧ ∃ A', Go.sliced A i n c 12 = .slice A' (n - i) (c - i) ∧ CsIn w w.heap.size base A' (n - i) (cs.drop i) := by
  obtain ⟨svs, h1, h2, h3⟩ := h
  have hz : ((cs.zip svs).flatMap fun p => cellC p.1 p.2).length = n * 12 := by rw [flat_length _ 12 pair_len, List.length_zip, h1, Nat.min_self, hn]
  rcases h2.2 with ⟨hv, h0⟩ | ⟨g, cap, cur, hv, hb, hg, hnc, hcm, hcs, htake⟩
  · obtain rfl : cs = [] := List.length_eq_zero_iff.1 h0
    obtain rfl : n = 0 := by omega
    obtain rfl : i = 0 := by omega
    exact ⟨⟨[], rfl, ⟨rfl, fun hp => absurd hp (by omega)⟩, fun j x sv hx => by simp at hx⟩, _, rfl, ⟨[], rfl, ⟨rfl, fun hp => absurd hp (by omega)⟩, fun j x sv hx => by simp at hx⟩⟩
  · have hv' := hv
    simp only [Value.slice.injEq] at hv
    obtain ⟨rfl, hn', rfl⟩ := hv
    rw [← hn'] at h2
    have hcell : ∀ j u, ((cs.zip svs).flatMap fun p => cellC p.1 p.2)[j]? = some u → w.cell? ⟨g, j, none⟩ = some u := fun j u hu => by
      have hj : j < n * 12 := by have := (List.getElem?_eq_some_iff.1 hu).1; omega
      rw [h2.cellAt j hj, hu]
    refine ⟨⟨svs.take i, by simp [h1], ⟨?_, fun hp => ⟨g, 0, rfl, lt_of_block hg, fun j u hu => ?_⟩⟩, fun j x sv hx hs => ?_⟩, _, rfl, svs.drop i, by simp [h1], ⟨?_, fun hp => ?_⟩, fun j x sv hx hs => ?_⟩
    · rw [zip_take, row_take _ 12 pair_len, List.length_take, hz]; omega
    · rw [zip_take, row_take _ 12 pair_len] at hu
      rw [Nat.zero_add]
      refine hcell j u ?_
      rw [List.getElem?_take] at hu
      split at hu
      · exact hu
      · cases hu
    · rw [List.getElem?_take] at hx hs
      split at hx
      · rename_i hlt
        rw [if_pos hlt] at hs
        exact h3 j x sv hx hs
      · cases hx
    · rw [zip_drop, row_drop _ 12 pair_len, List.length_drop, hz]; omega
    · rw [if_neg (by omega)]
      refine ⟨g, i * 12, ?_, lt_of_block hg, fun j u hu => ?_⟩
      · by_cases h0 : i = 0
        · subst h0; simp [Addr.add]
        · have h4 : ¬ i * 12 = 0 := by omega
          simp [Addr.add, h4]
      · rw [zip_drop, row_drop _ 12 pair_len, List.getElem?_drop] at hu
        exact hcell _ u hu
    · rw [List.getElem?_drop] at hx hs
      exact h3 _ x sv hx hs
/-- One cell of a literal. -/
theorem CsIn.one {b o : Nat} {x : CellL} {sv : Value} (hA : At w b o (cellC x sv)) (hb : b < B) (hV : VsIn w vb sv x.vers) : CsIn w B vb (some ⟨b, o, none⟩) 1 [x] :=
  ⟨[sv], rfl, ⟨rfl, fun _ => ⟨b, o, rfl, hb, by simpa using hA⟩⟩, fun j y s hy hs => by
    rcases j with _ | j
    · simp only [List.getElem?_cons_zero, Option.some.injEq] at hy hs
      subst hy hs
      exact hV
    · simp at hy⟩
/-- 'append(s, x...)', s the call's own. -/
theorem run_append_cells (w : World) (ty : TypeId) (base vb : Nat) (A : Option Addr) (n c : Nat) (cs : List CellL) (hn : cs.length = n) (hown : OwnCs2 w base vb (.slice A n c) cs) (B : Nat) (X : Option Addr) (m xc : Nat) (us : List CellL) (hC : CsIn w B vb X m us) (hb : n + m ≤ 1000000) (hbase : base ≤ w.heap.size) :
    ∃ v w', (Builtin.append_ #[31, 31] ty #[.slice A n c, .slice X m xc]).run Try.prog w = .ok v w' ∧ ∃ A' c', v = .slice A' (n + m) c' ∧ OwnCs2 w' base vb (.slice A' (n + m) c') (cs ++ us) ∧ Below base w w' ∧ w.grownBy w' (Value.ownBlock (.slice A n c)) := by
  have hblk := fun q hq => (hown.block (q := q) hq)
  obtain ⟨svs, h1, h2, h3⟩ := hown
  obtain ⟨sus, k1, k2, k3⟩ := hC
  have hm : us.length = m := by
    have := k2.1
    rw [flat_length _ 12 pair_len, List.length_zip, k1, Nat.min_self] at this
    omega
  rw [hn] at h2
  have hone : ∀ u ∈ (us.zip sus).flatMap (fun p => cellC p.1 p.2), u.oneCell' = true := fun u hu => by
    obtain ⟨p, hp, hu'⟩ := List.mem_flatMap.1 hu
    obtain ⟨j, hj⟩ := List.mem_iff_getElem?.1 hp
    obtain ⟨hx, hs⟩ := List.getElem?_zip_eq_some.1 hj
    obtain ⟨A1, c1, e1, _⟩ := k3 j p.1 p.2 hx hs
    rw [e1] at hu'
    exact cell_one _ _ _ _ u hu'
  obtain ⟨A', c', w', hrun, hO, hB, hG⟩ := run_append_k (P := Try.prog) w base 31 ty 45 _ 12 128 Try.underlying31 infoC rfl (by omega) A n c _ h2 B X m xc _ k2 hone (by omega) (by unfold maxLen; omega) hbase
  refine ⟨_, w', hrun, A', c', rfl, ⟨svs ++ sus, by simp [h1, k1], ?_, ?_⟩, hB, hG⟩
  · rw [List.zip_append h1.symm, List.flatMap_append, List.length_append, hn, hm]
    exact hO
  · intro j z zv hz hzv
    have hkeep : ∀ sv' vs, VsIn w vb sv' vs → VsIn w' vb sv' vs := fun sv' vs hvs => hvs.keep fun g cur hb hg => hG.block g (lt_of_block hg) (fun he => by
      obtain ⟨_, cur', hq⟩ := hblk g he.symm
      rw [hg] at hq
      simp only [Option.some.injEq, Obj.cells.injEq] at hq
      exact types_apart hq.2.1.symm)
    by_cases hj : j < cs.length
    · rw [List.getElem?_append_left hj] at hz
      rw [List.getElem?_append_left (by omega)] at hzv
      exact hkeep _ _ (h3 j z zv hz hzv)
    · rw [List.getElem?_append_right (by omega)] at hz
      rw [List.getElem?_append_right (by omega), h1] at hzv
      exact hkeep _ _ (k3 _ z zv hz hzv)
/-- A cell's lock, written in place: the ten cells that are written. -/
def putLock (w : World) (g o : Nat) (l : LockL) : World := ((((((((((w.setCell ⟨g, o + 2, none⟩ (.bool true)).setCell ⟨g, o + 3, none⟩ (.int .i64 l.by_.node)).setCell ⟨g, o + 4, none⟩ (.int .i64 l.by_.life)).setCell ⟨g, o + 5, none⟩ (.int .i64 l.by_.seq)).setCell ⟨g, o + 6, none⟩ (.int .i64 l.by_.att)).setCell ⟨g, o + 7, none⟩ (.int .i64 l.home)).setCell ⟨g, o + 8, none⟩ (.int .i64 l.at_.wall)).setCell ⟨g, o + 9, none⟩ (.int .i64 l.at_.tie)).setCell ⟨g, o + 10, none⟩ (.bool l.drop)).setCell ⟨g, o + 11, none⟩ (.string l.data))
theorem putLock_heap (w : World) (g o : Nat) (l : LockL) (q : Nat) (hq : q ≠ g) : (putLock w g o l).heap[q]? = w.heap[q]? := by
  have h := fun (w : World) (j : Nat) (v : Value) => Below.heap_setCell w ⟨g, j, none⟩ v q hq
  unfold putLock
  rw [h, h, h, h, h, h, h, h, h, h]
theorem putLock_below {w0 : World} {g o : Nat} (l : LockL) (h : Below B w0 w) (hg : B ≤ g) : Below B w0 (putLock w g o l) :=
  (((((((((h.setCell (p := ⟨g, o + 2, none⟩) hg _).setCell (p := ⟨g, o + 3, none⟩) hg _).setCell (p := ⟨g, o + 4, none⟩) hg _).setCell (p := ⟨g, o + 5, none⟩) hg _).setCell (p := ⟨g, o + 6, none⟩) hg _).setCell (p := ⟨g, o + 7, none⟩) hg _).setCell (p := ⟨g, o + 8, none⟩) hg _).setCell (p := ⟨g, o + 9, none⟩) hg _).setCell (p := ⟨g, o + 10, none⟩) hg _).setCell (p := ⟨g, o + 11, none⟩) hg _
theorem row_locked (cs : List CellL) (svs : List Value) (i : Nat) (x : CellL) (sv : Value) (l : LockL) (hx : cs[i]? = some x) (hs : svs[i]? = some sv) (hl : svs.length = cs.length) :
    ((((((((((((cs.zip svs).flatMap fun p => cellC p.1 p.2).set (i * 12 + 2) (.bool true)).set (i * 12 + 3) (.int .i64 l.by_.node)).set (i * 12 + 4) (.int .i64 l.by_.life)).set (i * 12 + 5) (.int .i64 l.by_.seq)).set (i * 12 + 6) (.int .i64 l.by_.att)).set (i * 12 + 7) (.int .i64 l.home)).set (i * 12 + 8) (.int .i64 l.at_.wall)).set (i * 12 + 9) (.int .i64 l.at_.tie)).set (i * 12 + 10) (.bool l.drop)).set (i * 12 + 11) (.string l.data)) = ((cs.set i { x with locked := true, lock := l }).zip svs).flatMap fun p => cellC p.1 p.2 := by
  have hz : (cs.zip svs)[i]? = some (x, sv) := by rw [List.getElem?_zip_eq_some]; exact ⟨hx, hs⟩
  have hi : i < (cs.zip svs).length := (List.getElem?_eq_some_iff.1 hz).1
  have hset : ∀ (y : CellL), (cs.set i y).zip svs = (cs.zip svs).set i (y, sv) := fun y => by
    apply List.ext_getElem?
    intro j
    rw [List.getElem?_set]
    by_cases hj : i = j
    · subst hj
      rw [if_pos rfl, if_pos hi, List.getElem?_zip_eq_some, List.getElem?_set, if_pos rfl]
      exact ⟨by rw [if_pos (List.getElem?_eq_some_iff.1 hx).1], hs⟩
    · rw [if_neg hj, List.zip_eq_zipWith, List.zip_eq_zipWith, List.getElem?_zipWith, List.getElem?_zipWith, List.getElem?_set, if_neg hj]
  rw [hset]
  obtain ⟨xk, xv, xl, ⟨⟨b0, b1, b2, b3⟩, hm, ⟨aw, at'⟩, dr, da⟩⟩ := x
  obtain ⟨⟨c0, c1, c2, c3⟩, hm', ⟨aw', at''⟩, dr', da'⟩ := l
  have S : ∀ (y y' : CellL) (q : Nat) (u : Value), q < 12 → cellC y' sv = (cellC y sv).set q u → (((cs.zip svs).set i (y, sv)).flatMap fun p => cellC p.1 p.2).set (i * 12 + q) u = ((cs.zip svs).set i (y', sv)).flatMap fun p => cellC p.1 p.2 := fun y y' q u hq hy => by
    rw [row_set (fun p : CellL × Value => cellC p.1 p.2) 12 pair_len _ i q (y, sv) (y', sv) u (by rw [List.getElem?_set, if_pos rfl, if_pos hi]) hq hy, List.set_set]
  dsimp only
  rw [row_set (fun p : CellL × Value => cellC p.1 p.2) 12 pair_len (cs.zip svs) i 2 (⟨xk, xv, xl, ⟨⟨b0, b1, b2, b3⟩, hm, ⟨aw, at'⟩, dr, da⟩⟩, sv) (⟨xk, xv, true, ⟨⟨b0, b1, b2, b3⟩, hm, ⟨aw, at'⟩, dr, da⟩⟩, sv) (.bool true) hz (by omega) rfl]
  rw [S ⟨xk, xv, true, ⟨⟨b0, b1, b2, b3⟩, hm, ⟨aw, at'⟩, dr, da⟩⟩ ⟨xk, xv, true, ⟨⟨c0, b1, b2, b3⟩, hm, ⟨aw, at'⟩, dr, da⟩⟩ 3 _ (by omega) rfl]
  rw [S ⟨xk, xv, true, ⟨⟨c0, b1, b2, b3⟩, hm, ⟨aw, at'⟩, dr, da⟩⟩ ⟨xk, xv, true, ⟨⟨c0, c1, b2, b3⟩, hm, ⟨aw, at'⟩, dr, da⟩⟩ 4 _ (by omega) rfl]
  rw [S ⟨xk, xv, true, ⟨⟨c0, c1, b2, b3⟩, hm, ⟨aw, at'⟩, dr, da⟩⟩ ⟨xk, xv, true, ⟨⟨c0, c1, c2, b3⟩, hm, ⟨aw, at'⟩, dr, da⟩⟩ 5 _ (by omega) rfl]
  rw [S ⟨xk, xv, true, ⟨⟨c0, c1, c2, b3⟩, hm, ⟨aw, at'⟩, dr, da⟩⟩ ⟨xk, xv, true, ⟨⟨c0, c1, c2, c3⟩, hm, ⟨aw, at'⟩, dr, da⟩⟩ 6 _ (by omega) rfl]
  rw [S ⟨xk, xv, true, ⟨⟨c0, c1, c2, c3⟩, hm, ⟨aw, at'⟩, dr, da⟩⟩ ⟨xk, xv, true, ⟨⟨c0, c1, c2, c3⟩, hm', ⟨aw, at'⟩, dr, da⟩⟩ 7 _ (by omega) rfl]
  rw [S ⟨xk, xv, true, ⟨⟨c0, c1, c2, c3⟩, hm', ⟨aw, at'⟩, dr, da⟩⟩ ⟨xk, xv, true, ⟨⟨c0, c1, c2, c3⟩, hm', ⟨aw', at'⟩, dr, da⟩⟩ 8 _ (by omega) rfl]
  rw [S ⟨xk, xv, true, ⟨⟨c0, c1, c2, c3⟩, hm', ⟨aw', at'⟩, dr, da⟩⟩ ⟨xk, xv, true, ⟨⟨c0, c1, c2, c3⟩, hm', ⟨aw', at''⟩, dr, da⟩⟩ 9 _ (by omega) rfl]
  rw [S ⟨xk, xv, true, ⟨⟨c0, c1, c2, c3⟩, hm', ⟨aw', at''⟩, dr, da⟩⟩ ⟨xk, xv, true, ⟨⟨c0, c1, c2, c3⟩, hm', ⟨aw', at''⟩, dr', da⟩⟩ 10 _ (by omega) rfl]
  rw [S ⟨xk, xv, true, ⟨⟨c0, c1, c2, c3⟩, hm', ⟨aw', at''⟩, dr', da⟩⟩ ⟨xk, xv, true, ⟨⟨c0, c1, c2, c3⟩, hm', ⟨aw', at''⟩, dr', da'⟩⟩ 11 _ (by omega) rfl]
theorem OwnCs2.locked {g n c i : Nat} {cs : List CellL} {x : CellL} (h : OwnCs2 w base vb (.slice (some ⟨g, 0, none⟩) n c) cs) (hn : cs.length = n) (hx : cs[i]? = some x) (l : LockL) :
    OwnCs2 (putLock w g (i * 12) l) base vb (.slice (some ⟨g, 0, none⟩) n c) (cs.set i { x with locked := true, lock := l }) := by
  obtain ⟨_, cur0, hg⟩ := h.block rfl
  obtain ⟨svs, h1, h2, h3⟩ := h
  have hi := (List.getElem?_eq_some_iff.1 hx).1
  have hs : svs[i]? = some svs[i] := List.getElem?_eq_getElem (by omega)
  rw [hn] at h2
  refine ⟨svs, by rw [List.length_set]; exact h1, ?_, fun j y sv hy hsv => ?_⟩
  · rw [List.length_set, hn, ← row_locked cs svs i x _ l hx hs h1]
    unfold putLock
    exact ((((((((((h2.stored (i * 12 + 2) _).1.stored (i * 12 + 3) _).1.stored (i * 12 + 4) _).1.stored (i * 12 + 5) _).1.stored (i * 12 + 6) _).1.stored (i * 12 + 7) _).1.stored (i * 12 + 8) _).1.stored (i * 12 + 9) _).1.stored (i * 12 + 10) _).1.stored (i * 12 + 11) _).1
  · have hv : ∃ y', cs[j]? = some y' ∧ y'.vers = y.vers := by
      rw [List.getElem?_set] at hy
      by_cases hj : i = j
      · subst hj
        rw [if_pos rfl, if_pos hi] at hy
        obtain rfl := Option.some.inj hy
        exact ⟨x, hx, rfl⟩
      · rw [if_neg hj] at hy
        exact ⟨y, hy, rfl⟩
    obtain ⟨y', hy', e⟩ := hv
    rw [← e]
    refine (h3 j y' sv hy' hsv).keep fun q cur _ hq => putLock_heap w g _ l q (fun e => ?_)
    subst e
    rw [hq] at hg
    simp only [Option.some.injEq, Obj.cells.injEq] at hg
    exact types_apart hg.2.1.symm
/-- The block of an own slice that has elements. -/
theorem OwnCs2.form {A : Option Addr} {n c : Nat} {cs : List CellL} (h : OwnCs2 w base vb (.slice A n c) cs) (hp : 0 < n) : ∃ g, A = some ⟨g, 0, none⟩ ∧ base ≤ g ∧ g < w.heap.size := by
  obtain ⟨svs, h1, h2, h3⟩ := h
  rcases h2.2 with ⟨hv, h0⟩ | ⟨g, cap, cur, hv, hb, hg, r⟩
  · simp only [Value.slice.injEq] at hv
    omega
  · simp only [Value.slice.injEq] at hv
    exact ⟨g, hv.1, hb, lt_of_block hg⟩
theorem OwnCs2.frozen {g n c : Nat} {cs : List CellL} (h : OwnCs2 w base vb (.slice (some ⟨g, 0, none⟩) n c) cs) (j : Nat) : w.frozen? ⟨g, j, none⟩ = false := by
  obtain ⟨_, cur, hg⟩ := h.block rfl
  exact frozen_of_row w g j cur _ hg
/-- Cell q of element i, whatever it holds. -/
theorem OwnCs2.cell_at {g n c i : Nat} {cs : List CellL} {x : CellL} (h : OwnCs2 w base vb (.slice (some ⟨g, 0, none⟩) n c) cs) (hn : cs.length = n) (hx : cs[i]? = some x) : ∃ sv, VsIn w vb sv x.vers ∧ At w g (i * 12) (cellC x sv) := by
  obtain ⟨svs, h1, h2, h3⟩ := h
  have hi := (List.getElem?_eq_some_iff.1 hx).1
  have hs : svs[i]? = some svs[i] := List.getElem?_eq_getElem (by omega)
  rw [hn] at h2
  refine ⟨svs[i], h3 i x _ hx hs, fun q u hu => ?_⟩
  have hq : q < 12 := by have := (List.getElem?_eq_some_iff.1 hu).1; rw [cell_len] at this; exact this
  have hz : (cs.zip svs)[i]? = some (x, svs[i]) := by rw [List.getElem?_zip_eq_some]; exact ⟨hx, hs⟩
  rw [h2.cellAt _ (by omega), flat_get (fun p : CellL × Value => cellC p.1 p.2) 12 pair_len (cs.zip svs) i q _ hz hq]
  exact hu
end
end Go.Proofs.Ytlkhmpfdajefiaa.kit

/- Operations on cells of keys, as plain values and in memory (stage 8). Conditions: none. -/
namespace Go.Proofs.Ytlkhmpfdajefiaa.kit
open Go Go.RowKit Go.Proofs.Ytlkhmpfdajefiaa.nums Go.Proofs.Ytlkhmpfdajefiaa.st Go.Proofs.Ytlkhmpfdajefiaa.mv
set_option linter.unusedVariables false

structure OpM where
  kind : Int
  key : ByteArray
  drop : Bool
  data : ByteArray
  lk : LockL
  yes : Bool
def opC (x : OpM) : List Value := [.int .i64 x.kind, .string x.key, .bool x.drop, .string x.data, .int .i64 x.lk.by_.node, .int .i64 x.lk.by_.life, .int .i64 x.lk.by_.seq, .int .i64 x.lk.by_.att, .int .i64 x.lk.home, .int .i64 x.lk.at_.wall, .int .i64 x.lk.at_.tie, .bool x.lk.drop, .string x.lk.data, .bool x.yes]
theorem op_len (x : OpM) : (opC x).length = 14 := rfl
/-- The slice at A with n elements reads as the operations, below block B. -/
def RdOpM (w : World) (B : Nat) (A : Option Addr) (n : Nat) (os : List OpM) : Prop :=
  os.length = n ∧ (0 < n → ∃ b o, A = some ⟨b, o, none⟩ ∧ b < B ∧ ∀ (j : Nat) (x : OpM), os[j]? = some x → At w b (o + j * 14) (opC x))
section
variable {w w' : World} {B B' : Nat}
theorem RdOpM.below {A : Option Addr} {n : Nat} {os : List OpM} (h : RdOpM w B A n os) (hb : Below B w w') : RdOpM w' B A n os :=
  ⟨h.1, fun hn => by
    obtain ⟨b, o, e, hlt, hc⟩ := h.2 hn
    exact ⟨b, o, e, hlt, fun j x hx => (hc j x hx).below hlt hb⟩⟩
theorem RdOpM.more {A : Option Addr} {n : Nat} {os : List OpM} (h : RdOpM w B A n os) (hB : B ≤ B') : RdOpM w B' A n os :=
  ⟨h.1, fun hn => by
    obtain ⟨b, o, e, hlt, hc⟩ := h.2 hn
    exact ⟨b, o, e, by omega, hc⟩⟩
theorem RdOpM.at_ {A : Option Addr} {n : Nat} {os : List OpM} (h : RdOpM w B A n os) {j : Nat} (hj : j < n) : ∃ b o x, A = some ⟨b, o, none⟩ ∧ b < B ∧ os[j]? = some x ∧ At w b (o + j * 14) (opC x) := by
  obtain ⟨b, o, e, hlt, hc⟩ := h.2 (by omega)
  have hlen := h.1
  have hx : os[j]? = some (os[j]) := List.getElem?_eq_getElem (by omega)
  exact ⟨b, o, os[j], e, hlt, hx, hc j _ hx⟩
end
/-- Which of the three it is. -/
def numF (k : Int) : Int := Int.tmod (Int.tmod k 3 + 3) 3
theorem num_ways (k : Int) : numF k = 0 ∨ numF k = 1 ∨ numF k = 2 := by
  unfold numF
  have h1 := Int.tmod_lt_of_pos k (show (0 : Int) < 3 by omega)
  have h2 : -3 < Int.tmod k 3 := by
    have := Int.neg_tmod k 3
    have h3 := Int.tmod_lt_of_pos (-k) (show (0 : Int) < 3 by omega)
    omega
  generalize Int.tmod k 3 = z at *
  have h4 : 0 ≤ z + 3 := by omega
  rw [Int.tmod_eq_emod_of_nonneg h4]
  omega
/-- What an operation makes of cells. -/
def doF (o : OpM) (cs : List CellL) : List CellL :=
  if numF o.kind = 0 then lockF o.key (lockOf o.drop o.data o.lk) cs else if numF o.kind = 1 then settleF o.lk.by_ o.yes cs else trimF o.lk.at_ cs
/-- What a run of operations makes of none. -/
def runF (os : List OpM) : List CellL := os.foldl (fun cs o => doF o cs) []
theorem run_step {os : List OpM} {j : Nat} {x : OpM} (hx : os[j]? = some x) : runF (os.take (j + 1)) = doF x (runF (os.take j)) := by
  obtain ⟨hj, rfl⟩ := List.getElem?_eq_some_iff.1 hx
  rw [List.take_succ_eq_append_getElem hj]
  unfold runF
  rw [List.foldl_append]
  rfl
theorem lockOf_text (drop : Bool) (data : ByteArray) (l : LockL) : (lockOf drop data l).drop = true → (lockOf drop data l).data = noText := by
  unfold lockOf
  intro h
  rw [if_pos h]
theorem do_ok (o : OpM) {cs : List CellL} (h : okC cs) : okC (doF o cs) := by
  unfold doF
  split
  · exact ok_lock _ _ (lockOf_text _ _ _) _ h
  · split
    · exact ok_settle h _ _
    · exact ok_trim h _
theorem run_ok (os : List OpM) : okC (runF os) := by
  have : ∀ (os : List OpM) (cs : List CellL), okC cs → okC (os.foldl (fun cs o => doF o cs) cs) := by
    intro os
    induction os with
    | nil => intro cs h; exact h
    | cons o os ih => intro cs h; exact ih _ (do_ok o h)
  exact this os [] ok_none'
where
  ok_none' : okC [] := ⟨List.Pairwise.nil, fun x hx => by cases hx⟩
/-- At most k cells with at most k versions each. -/
def FewN (k : Nat) (cs : List CellL) : Prop := cs.length ≤ k ∧ ∀ x ∈ cs, x.vers.length ≤ k
theorem keep_vers {x y : CellL} (h : keepF x = some y) : y = x := (keep_some h).1
theorem lock_vers (k : ByteArray) (l : LockL) (N : Nat) : ∀ c : List CellL, (∀ x ∈ c, x.vers.length ≤ N) → ∀ y ∈ lockF k l c, y.vers.length ≤ N
  | [], _, y, hy => by
    unfold lockF at hy
    obtain rfl := List.mem_singleton.1 hy
    exact Nat.zero_le _
  | x :: r, h, y, hy => by
    unfold lockF at hy
    split at hy
    · rcases List.mem_cons.1 hy with rfl | hy
      · exact h x (List.mem_cons_self ..)
      · exact h y (List.mem_cons_of_mem _ hy)
    · split at hy
      · rcases List.mem_cons.1 hy with rfl | hy
        · exact h _ (List.mem_cons_self ..)
        · exact lock_vers k l N r (fun z hz => h z (List.mem_cons_of_mem _ hz)) y hy
      · rcases List.mem_cons.1 hy with rfl | hy
        · exact Nat.zero_le _
        · exact h y hy
theorem free_vers (b : TrL) (yes : Bool) (x : CellL) : (freeF b yes x).vers.length ≤ x.vers.length + 1 := by
  unfold freeF
  split
  · dsimp only
    split
    · exact with_length _ _
    · omega
  · omega
theorem few_do (o : OpM) {k : Nat} {cs : List CellL} (h : FewN k cs) : FewN (k + 1) (doF o cs) := by
  unfold doF
  split
  · refine ⟨Nat.le_trans (lock_length _ _ _) (by have := h.1; omega), fun y hy => Nat.le_trans (lock_vers _ _ k cs h.2 y hy) (by omega)⟩
  · split
    · refine ⟨Nat.le_trans (settle_length _ _ _) (by have := h.1; omega), fun y hy => ?_⟩
      obtain ⟨x, hx, e⟩ := List.mem_filterMap.1 hy
      rw [keep_vers e]
      exact Nat.le_trans (free_vers _ _ _) (by have := h.2 x hx; omega)
    · refine ⟨Nat.le_trans (trim_length _ _) (by have := h.1; omega), fun y hy => ?_⟩
      obtain ⟨x, hx, e⟩ := List.mem_filterMap.1 hy
      rw [keep_vers e]
      exact Nat.le_trans (cut_suffix o.lk.at_ x.vers).length_le (by have := h.2 x hx; omega)
theorem run_few (os : List OpM) : FewN os.length (runF os) := by
  have : ∀ (os : List OpM) (cs : List CellL) (k : Nat), FewN k cs → FewN (k + os.length) (os.foldl (fun cs o => doF o cs) cs) := by
    intro os
    induction os with
    | nil => intro cs k h; exact h
    | cons o os ih =>
      intro cs k h
      have := ih _ (k + 1) (few_do o h)
      rw [List.length_cons, show k + (os.length + 1) = k + 1 + os.length by omega]
      exact this
  have h := this os [] 0 ⟨Nat.le_refl _, fun x hx => by cases hx⟩
  rw [Nat.zero_add] at h
  exact h
end Go.Proofs.Ytlkhmpfdajefiaa.kit
