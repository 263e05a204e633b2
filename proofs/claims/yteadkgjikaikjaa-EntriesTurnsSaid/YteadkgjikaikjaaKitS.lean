/- Laws of slice expressions on any slice of bytes: what is cut reads as a piece, wherever it lies. Conditions: those that each theorem names. -/
import Derived.Test.YteadkgjikaikjaaKitO
import Derived.Laws.Slices
import Derived.ArgAppend
namespace Go.Proofs.Yteadkgjikaikjaa.kit
open Go.RowKit
set_option linter.unusedVariables false

theorem Rd.sliced {w : World} {B n : Nat} {A : Option Addr} {l : List Int} (h : Rd w B A n l) {p q m : Nat} (hp : p ≤ q) (hq : q ≤ n) (hm : q ≤ m) :
    ∃ A', Go.sliced A p q m 1 = .slice A' (q - p) (m - p) ∧ Rd w B A' (q - p) ((l.drop p).take (q - p)) := by
  refine ⟨_, rfl, ?_⟩
  by_cases h0 : q - p = 0
  · rw [h0, List.take_zero]; exact Rd.nil _ _ _
  · obtain ⟨b, o, rfl, _, _⟩ := h.2 (by omega)
    rw [if_neg (by omega)]
    have := h.cut hp hq
    by_cases hp0 : p = 0
    · subst hp0
      simpa [Addr.add] using this
    · simpa [Addr.add, hp0] using this
theorem elem_of {P : Program} {t e : TypeId} (h : P.underlying t = some (.slice e)) : P.elem t = e := by
  unfold Program.elem; rw [h]
theorem run_sizeOf_one {P : Program} {w : World} {e : TypeId} {i : TypeInfo} (h : P.info? e = some i) (h1 : i.size = 1) : (sizeOf e).run P w = .ok 1 w := by
  simp [sizeOf, typeInfo, h, h1]
section
variable {P : Program} {w : World} {ops : Array Oper} {rest : List Oper} {o : Oper} {a : Act} {Q : Exit → Act → World → Prop}
/-- 's[lo:hi]'. -/
theorem wpList_slice_lh (hgd : o.guard = none) (s lo hi : Operand) (t : TypeId) (ho : o.op = .slice t s (some lo) (some hi) none) (e : TypeId) (ht : P.underlying t = some (.slice e)) (h2 : (P.info? e).map (fun i => (i.zero, i.size, i.bytes)) = some (some (.int .u8 0), 1, 1))
    (A : Option Addr) (n c B : Nat) (l : List Int) (hs : a.eval s = .slice A n c) (hR : Rd w B A n l) (kl kh : IntKind) (L H : Int) (p q : Nat) (hlo : a.eval lo = .int kl L) (hhi : a.eval hi = .int kh H) (hL : L = (p : Int)) (hH : H = (q : Int)) (hpq : p ≤ q) (hq : q ≤ n) (hnc : n ≤ c)
    (h : ∀ A' c', Rd w B A' (q - p) ((l.drop p).take (q - p)) → q - p ≤ c' → c' ≤ c → wpList P ops Q rest (a.put o.dst (.slice A' (q - p) c')) w) : wpList P ops Q (o :: rest) a w := by
  refine wpList_plain hgd fun K hK => ?_
  obtain ⟨i, hi', hz0, hz1, hz2⟩ := info_parts h2
  obtain ⟨A', e1, hR'⟩ := hR.sliced hpq hq (Nat.le_trans hq hnc)
  have he := elem_of ht
  have hrun := run_slice_lh (P := P) w t A n c (by rw [he]; exact ht) kl kh L H (by omega) (by omega) (by omega)
  rw [he, run_sizeOf_one hi' hz1, hL, hH, Int.toNat_natCast, Int.toNat_natCast] at hrun
  have hat := run_sliceAt_slice (P := P) w t (.slice A n c) (some (.int kl L)) (some (.int kh H)) none (by rw [he]; exact ht)
  rw [hL, hH] at hat
  unfold Oper.wp execOp
  simp only [ho, Option.map_some, Option.map_none, hs, hlo, hhi, hL, hH, Sem.run_bind, hat, hrun, Result.andThen_ok, Sem.run_pure, e1]
  exact hK _ _ (h A' _ hR' (by omega) (by omega))
/-- 's[:hi]'. -/
theorem wpList_slice_h (hgd : o.guard = none) (s hi : Operand) (t : TypeId) (ho : o.op = .slice t s none (some hi) none) (e : TypeId) (ht : P.underlying t = some (.slice e)) (h2 : (P.info? e).map (fun i => (i.zero, i.size, i.bytes)) = some (some (.int .u8 0), 1, 1))
    (A : Option Addr) (n c B : Nat) (l : List Int) (hs : a.eval s = .slice A n c) (hR : Rd w B A n l) (kh : IntKind) (H : Int) (q : Nat) (hhi : a.eval hi = .int kh H) (hH : H = (q : Int)) (hq : q ≤ n) (hnc : n ≤ c)
    (h : ∀ A' c', Rd w B A' q (l.take q) → q ≤ c' → c' ≤ c → wpList P ops Q rest (a.put o.dst (.slice A' q c')) w) : wpList P ops Q (o :: rest) a w := by
  refine wpList_plain hgd fun K hK => ?_
  obtain ⟨i, hi', hz0, hz1, hz2⟩ := info_parts h2
  obtain ⟨A', e1, hR'⟩ := hR.sliced (Nat.zero_le q) hq (Nat.le_trans hq hnc)
  have he := elem_of ht
  have hrun := run_slice_h (P := P) w t A n c (by rw [he]; exact ht) kh H (by omega) (by omega)
  rw [he, run_sizeOf_one hi' hz1, hH, Int.toNat_natCast] at hrun
  have hat := run_sliceAt_slice (P := P) w t (.slice A n c) none (some (.int kh H)) none (by rw [he]; exact ht)
  rw [hH] at hat
  unfold Oper.wp execOp
  simp only [ho, Option.map_some, Option.map_none, hs, hhi, hH, Sem.run_bind, hat, hrun, Result.andThen_ok, Sem.run_pure, e1]
  rw [Nat.sub_zero, List.drop_zero] at hR'
  exact hK _ _ (h A' _ hR' (by omega) (by omega))
/-- 's[lo:]'. -/
theorem wpList_slice_l (hgd : o.guard = none) (s lo : Operand) (t : TypeId) (ho : o.op = .slice t s (some lo) none none) (e : TypeId) (ht : P.underlying t = some (.slice e)) (h2 : (P.info? e).map (fun i => (i.zero, i.size, i.bytes)) = some (some (.int .u8 0), 1, 1))
    (A : Option Addr) (n c B : Nat) (l : List Int) (hs : a.eval s = .slice A n c) (hR : Rd w B A n l) (kl : IntKind) (L : Int) (p : Nat) (hlo : a.eval lo = .int kl L) (hL : L = (p : Int)) (hpq : p ≤ n) (hnc : n ≤ c)
    (h : ∀ A' c', Rd w B A' (n - p) (l.drop p) → n - p ≤ c' → c' ≤ c → wpList P ops Q rest (a.put o.dst (.slice A' (n - p) c')) w) : wpList P ops Q (o :: rest) a w := by
  refine wpList_plain hgd fun K hK => ?_
  obtain ⟨i, hi', hz0, hz1, hz2⟩ := info_parts h2
  obtain ⟨A', e1, hR'⟩ := hR.sliced hpq (Nat.le_refl n) hnc
  have he := elem_of ht
  have hrun := run_slice_l (P := P) w t A n c (by rw [he]; exact ht) kl L (by omega) (by omega)
  rw [he, run_sizeOf_one hi' hz1, hL, Int.toNat_natCast] at hrun
  have hat := run_sliceAt_slice (P := P) w t (.slice A n c) (some (.int kl L)) none none (by rw [he]; exact ht)
  rw [hL] at hat
  unfold Oper.wp execOp
  simp only [ho, Option.map_some, Option.map_none, hs, hlo, hL, Sem.run_bind, hat, hrun, Result.andThen_ok, Sem.run_pure, e1]
  rw [List.take_of_length_le (by rw [List.length_drop, hR.1]; exact Nat.le_refl _)] at hR'
  exact hK _ _ (h A' _ hR' (by omega) (by omega))
/-- 's[:hi:max]'. -/
theorem wpList_slice_hm (hgd : o.guard = none) (s hi mx : Operand) (t : TypeId) (ho : o.op = .slice t s none (some hi) (some mx)) (e : TypeId) (ht : P.underlying t = some (.slice e)) (h2 : (P.info? e).map (fun i => (i.zero, i.size, i.bytes)) = some (some (.int .u8 0), 1, 1))
    (A : Option Addr) (n c B : Nat) (l : List Int) (hs : a.eval s = .slice A n c) (hR : Rd w B A n l) (kh km : IntKind) (H M : Int) (q m : Nat) (hhi : a.eval hi = .int kh H) (hmx : a.eval mx = .int km M) (hH : H = (q : Int)) (hM : M = (m : Int)) (hq : q ≤ n) (hqm : q ≤ m) (hmc : m ≤ c)
    (h : ∀ A', Rd w B A' q (l.take q) → wpList P ops Q rest (a.put o.dst (.slice A' q m)) w) : wpList P ops Q (o :: rest) a w := by
  refine wpList_plain hgd fun K hK => ?_
  obtain ⟨i, hi', hz0, hz1, hz2⟩ := info_parts h2
  obtain ⟨A', e1, hR'⟩ := hR.sliced (Nat.zero_le q) hq hqm
  have he := elem_of ht
  have hrun := run_slice_hm (P := P) w t A n c (by rw [he]; exact ht) kh km H M (by omega) (by omega) (by omega)
  rw [he, run_sizeOf_one hi' hz1, hH, hM, Int.toNat_natCast, Int.toNat_natCast] at hrun
  have hat := run_sliceAt_slice (P := P) w t (.slice A n c) none (some (.int kh H)) (some (.int km M)) (by rw [he]; exact ht)
  rw [hH, hM] at hat
  unfold Oper.wp execOp
  simp only [ho, Option.map_some, Option.map_none, hs, hhi, hmx, hH, hM, Sem.run_bind, hat, hrun, Result.andThen_ok, Sem.run_pure, e1]
  rw [Nat.sub_zero, List.drop_zero] at hR'
  exact hK _ _ (h A' hR')
/-- 's[lo:hi:max]'. -/
theorem wpList_slice_lhm (hgd : o.guard = none) (s lo hi mx : Operand) (t : TypeId) (ho : o.op = .slice t s (some lo) (some hi) (some mx)) (e : TypeId) (ht : P.underlying t = some (.slice e)) (h2 : (P.info? e).map (fun i => (i.zero, i.size, i.bytes)) = some (some (.int .u8 0), 1, 1))
    (A : Option Addr) (n c B : Nat) (l : List Int) (hs : a.eval s = .slice A n c) (hR : Rd w B A n l) (kl kh km : IntKind) (L H M : Int) (p q m : Nat) (hlo : a.eval lo = .int kl L) (hhi : a.eval hi = .int kh H) (hmx : a.eval mx = .int km M) (hL : L = (p : Int)) (hH : H = (q : Int)) (hM : M = (m : Int)) (hpq : p ≤ q) (hq : q ≤ n) (hqm : q ≤ m) (hmc : m ≤ c)
    (h : ∀ A', Rd w B A' (q - p) ((l.drop p).take (q - p)) → wpList P ops Q rest (a.put o.dst (.slice A' (q - p) (m - p))) w) : wpList P ops Q (o :: rest) a w := by
  refine wpList_plain hgd fun K hK => ?_
  obtain ⟨i, hi', hz0, hz1, hz2⟩ := info_parts h2
  obtain ⟨A', e1, hR'⟩ := hR.sliced hpq hq hqm
  have he := elem_of ht
  have hrun := run_slice_lhm (P := P) w t A n c (by rw [he]; exact ht) kl kh km L H M (by omega) (by omega) (by omega) (by omega)
  rw [he, run_sizeOf_one hi' hz1, hL, hH, hM, Int.toNat_natCast, Int.toNat_natCast, Int.toNat_natCast] at hrun
  have hat := run_sliceAt_slice (P := P) w t (.slice A n c) (some (.int kl L)) (some (.int kh H)) (some (.int km M)) (by rw [he]; exact ht)
  rw [hL, hH, hM] at hat
  unfold Oper.wp execOp
  simp only [ho, Option.map_some, hs, hlo, hhi, hmx, hL, hH, hM, Sem.run_bind, hat, hrun, Result.andThen_ok, Sem.run_pure, e1]
  exact hK _ _ (h A' hR')
/-- 'append(s, xs...)' of any slice of bytes that has no room behind its length: what comes is new. -/
theorem wpList_append_full (hgd : o.guard = none) (s x : Operand) (t : TypeId)
    (ho : o.op = .call { callee := .builtin .append, args := #[s, x], argTypes := #[t, t] }) (e : TypeId) (ht : P.underlying t = some (.slice e)) (h2 : (P.info? e).map (fun i => (i.zero, i.size, i.bytes)) = some (some (.int .u8 0), 1, 1))
    (A : Option Addr) (n B : Nat) (l : List Int) (hs : a.eval s = .slice A n n) (hR : Rd w B A n l)
    (B2 : Nat) (X : Option Addr) (m xc : Nat) (news : List Int) (hx : a.eval x = .slice X m xc) (hX : Rd w B2 X m news) (hm : 0 < m) (hb : n + m ≤ 140737488355328)
    (h : ∀ A' c' w', Own e w' w.heap.size (.slice A' (n + m) c') (l ++ news) → Below w.heap.size w w' → wpList P ops Q rest (a.put o.dst (.slice A' (n + m) c')) w') : wpList P ops Q (o :: rest) a w := by
  obtain ⟨i, hi, hz0, hz1, hz2⟩ := info_parts h2
  have hl : l.length = n := hR.1
  have hml : news.length = m := hX.1
  obtain ⟨ad, rfl, hc⟩ := hX.pos (by rw [u8s_length]; omega)
  refine wpList_append_grows w hgd s x t ho e i (.int .u8 0) 1 1 ht hi hz0 hz1 hz2 rfl (by decide) A n n (u8s l) hs ?_ (by rw [u8s_length, hl, Nat.mul_one]) ?_ ad m xc (u8s news) hx (by rw [u8s_length, hml, Nat.mul_one]) hc (u8s_one _) (by omega) (by unfold maxLen; omega) (by omega) ?_
  · intro hA
    have : ¬ 0 < n := fun hn => by
      obtain ⟨b, o, e', _⟩ := hR.2 hn
      rw [hA] at e'
      cases e'
    omega
  · intro b hb' j u hu
    have hp : 0 < (u8s l).length := by have := (List.getElem?_eq_some_iff.1 hu).1; omega
    obtain ⟨b2, e', hcell⟩ := hR.pos hp
    rw [hb'] at e'
    injection e' with e'
    subst e'
    exact hcell j u hu
  · intro v' w' hown hg
    have hO : Own e w' w.heap.size v' (l ++ news) := by
      unfold Own; rw [List.length_append, hl, hml, u8s_append]; exact hown
    obtain ⟨A', c', e1, _⟩ := hO.slice
    rw [List.length_append, hl, hml] at e1
    subst e1
    exact h A' c' w' hO ((Below.refl w.heap.size w).grown hg (Nat.le_refl _) (fun k hk => by cases hk))
end
end Go.Proofs.Yteadkgjikaikjaa.kit
