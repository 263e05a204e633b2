/- '[]byte(s)' of any string: a slice that reads as its bytes; what 'append' hands back is its first argument's block or a new one. Conditions: those that the theorem names. -/
import Derived.Test.YtodpaeaeigjmdaaDoorKitV
import Derived.Lib.ConvBytes
import Derived.ArgAppend
namespace Go.Proofs.YtodpaeaeigjmdaaDoor.kit
open Go.RowKit Go.Proofs.YtodpaeaeigjmdaaDoor.nums
set_option linter.unusedVariables false

theorem strOfNums_at {l : List Int} (hY : Byt l) (j : Nat) (hj : j < l.length) : (((strOfNums l).data.toList.getD j 0).toNat : Int) = l.getD j 0 := by
  have h := hY.at_ j
  have e1 : (strOfNums l).data.toList = l.map (fun n => UInt8.ofNat n.toNat) := by simp [strOfNums]
  rw [e1, List.getD_eq_getElem?_getD, List.getElem?_map, List.getElem?_eq_getElem hj]
  rw [List.getD_eq_getElem?_getD, List.getElem?_eq_getElem hj] at h ⊢
  simp only [Option.map_some, Option.getD_some] at h ⊢
  rw [UInt8.toNat_ofNat']
  omega
theorem bytesWorld_below (w : World) (e : TypeId) (s : ByteArray) : Below w.heap.size w (Lib.bytesWorld w e s) :=
  ⟨rfl, rfl, rfl, by rw [Lib.bytesWorld_size]; omega, fun k hk => Lib.bytesWorld_at_old w e s k hk⟩
section
variable {P : Program} {w : World} {ops : Array Oper} {rest : List Oper} {o : Oper} {a : Act} {Q : Exit → Act → World → Prop}
theorem wpList_of_string (hgd : o.guard = none) (x : Operand) (src dst e : TypeId) (ho : o.op = .convert src dst x) {u : TypeDesc} (hs : P.underlying src = some u) (hd : P.underlying dst = some (.slice e)) (he : P.underlying e = some (.int .u8))
    (l : List Int) (n : Nat) (hn : l.length = n) (hY : Byt l) (hl : n ≤ 1099511627776) (hx : a.eval x = .string (strOfNums l))
    (h : ∀ A c w', Rd w' w'.heap.size A n l → n ≤ c → c ≤ maxLen → Below w.heap.size w w' → wpList P ops Q rest (a.put o.dst (.slice A n c)) w') : wpList P ops Q (o :: rest) a w := by
  subst hn
  refine wpList_plain hgd fun K hK => ?_
  have hsz := strOfNums_size l
  have hrun := Lib.run_convert_string_bytes (P := P) w src dst e (strOfNums l) hs hd he
  rw [hsz] at hrun
  unfold Oper.wp execOp
  simp only [ho, hx, Sem.run_bind, hrun, Result.andThen_ok, Sem.run_pure]
  refine hK _ _ (h _ _ _ ?_ (by rw [← hsz]; exact grownCap_ge w (strOfNums l).size 0 e) (grownCap_le_maxLen w l.length 0 e (by unfold maxLen; omega)) (bytesWorld_below w e _))
  refine ⟨rfl, fun hp => ⟨_, 0, rfl, by rw [Lib.bytesWorld_size]; omega, fun j hj => ?_⟩⟩
  rw [Nat.zero_add, Lib.bytesWorld_cell w e _ j (by omega), strOfNums_at hY j hj]
end
/-- The row that 'append' hands back lies where the first argument's did, or is new. -/
theorem run_append_fresh {P : Program} (w : World) (base : Nat) (t ty e : TypeId) (z : Value) (by_ : Nat) (ht : P.underlying t = some (.slice e)) (h2 : (P.info? e).map (fun i => (i.zero, i.size, i.bytes)) = some (some z, 1, by_)) (hz : z.cells.size = 1)
    (A : Option Addr) (n c : Nat) (xs : List Value) (hn : xs.length = n) (hown : OwnV e w base (.slice A n c) xs)
    (B : Nat) (X : Option Addr) (m xc : Nat) (news : List Value) (hR : RdV w B X m news) (h1 : ∀ u ∈ news, u.oneCell' = true) (hb : (n + m) * by_ ≤ 140737488355328) (h63 : n + m ≤ maxLen)
    {v' : Value} {w' : World} (hrun : (Builtin.append_ #[t, t] ty #[.slice A n c, .slice X m xc]).run P w = .ok v' w') : ∀ k, v'.ownBlock = some k → (Value.slice A n c).ownBlock = some k ∨ w.heap.size ≤ k := by
  obtain ⟨i, hi, hz0, hz1, hz2⟩ := info_parts h2
  have hm : news.length = m := hR.1
  have hown' : w.ownsRow base e 1 (.slice A n c) n xs := by unfold OwnV at hown; rw [hn] at hown; exact hown
  intro k hk
  rcases X with _ | ad
  · have := run_append_src_none (P := P) w base t ty e i ht hi _ n xs hown' xc
    have hm0 : m = 0 := by
      rcases Nat.eq_zero_or_pos m with h0 | h0
      · exact h0
      · obtain ⟨b, o, h, _⟩ := hR.2 h0
        cases h
    subst hm0
    rw [this] at hrun
    injection hrun with e1 e2
    subst e1
    exact .inl hk
  · have hcells : ∀ j u, news[j]? = some u → w.cell? (ad.add j) = some u := by
      intro j u hu
      have hp : 0 < news.length := by have := (List.getElem?_eq_some_iff.1 hu).1; omega
      obtain ⟨ad', h, hc⟩ := hR.pos hp
      injection h with h
      subst h
      exact hc j u hu
    rcases hown'.2 with ⟨hv, hn0⟩ | ⟨g, cap, cur, hv, hbg, hg, hnc, hcm, hcs, htake⟩
    · obtain ⟨v2, w2, hrun2, h3, _, _⟩ := run_append_own (P := P) w w.heap.size t ty e i z 1 by_ ht hi hz0 hz1 hz2 hz (by omega) _ n xs ⟨hown'.1, .inl ⟨hv, hn0⟩⟩ ad m xc news (by omega) hcells h1 h63 hb (Nat.le_refl _)
      rw [hrun] at hrun2
      injection hrun2 with e1 e2
      subst e1
      exact .inr (World.ownsRow.lt h3 k hk).1
    · simp only [Value.slice.injEq] at hv
      obtain ⟨rfl, -, rfl⟩ := hv
      by_cases hroom : n + m ≤ c
      · left
        have := run_append_room (P := P) w t ty e i ht hi g n c cur hg ad m xc news (by rw [hz1]; omega) hcells h1 hroom (by rw [hz1, hcs, hm]; omega)
        rw [hrun] at this
        injection this with e1 e2
        subst e1
        exact hk
      · right
        have hlo : xs.length = n * 1 := by rw [hn, Nat.mul_one]
        have holds : ∀ j u, xs[j]? = some u → w.cell? ((⟨g, 0, none⟩ : Addr).add j) = some u := fun j u hu => by
          have hj : j < n := by have := (List.getElem?_eq_some_iff.1 hu).1; omega
          rw [Addr.add_lit, Nat.zero_add, World.ownsRow.cellAt hown' j (by omega)]
          exact hu
        obtain ⟨v2, w2, hrun2, h3, _⟩ := run_append_arg_grows (P := P) w t ty e i z 1 by_ ht hi hz0 hz1 hz2 hz (by omega) ⟨g, 0, none⟩ n c xs hlo holds ad m xc news (by omega) hcells (by omega) h63 hb
        rw [hrun] at hrun2
        injection hrun2 with e1 e2
        subst e1
        exact (World.ownsRow.lt h3 k hk).1
/-- 'append(out, xs...)', as wpList_append_v, and where it lies. -/
theorem wpList_append_vf {P : Program} {w : World} {ops : Array Oper} {rest : List Oper} {o : Oper} {a : Act} {Q : Exit → Act → World → Prop} (hgd : o.guard = none) (s x : Operand) (t : TypeId)
    (ho : o.op = .call { callee := .builtin .append, args := #[s, x], argTypes := #[t, t] }) (base : Nat) (e : TypeId) (z : Value) (by_ : Nat) (ht : P.underlying t = some (.slice e)) (h2 : (P.info? e).map (fun i => (i.zero, i.size, i.bytes)) = some (some z, 1, by_)) (hz : z.cells.size = 1)
    (A : Option Addr) (n c : Nat) (xs : List Value) (hn : xs.length = n) (hs : a.eval s = .slice A n c) (hown : OwnV e w base (.slice A n c) xs)
    (B : Nat) (X : Option Addr) (m xc : Nat) (news : List Value) (hx : a.eval x = .slice X m xc) (hR : RdV w B X m news) (h1 : ∀ u ∈ news, u.oneCell' = true) (hb : (n + m) * by_ ≤ 140737488355328) (h63 : n + m ≤ maxLen) (hbase : base ≤ w.heap.size)
    (h : ∀ A' c' w', OwnV e w' base (.slice A' (n + m) c') (xs ++ news) → Below base w w' → w.grownBy w' (Value.ownBlock (.slice A n c)) → (∀ k, (Value.slice A' (n + m) c').ownBlock = some k → (Value.slice A n c).ownBlock = some k ∨ w.heap.size ≤ k) → wpList P ops Q rest (a.put o.dst (.slice A' (n + m) c')) w') : wpList P ops Q (o :: rest) a w := by
  refine wpList_plain hgd fun K hK => ?_
  obtain ⟨A', c', w', hrun, h3, h4, h5⟩ := run_append_v (P := P) w base t o.type e z by_ ht h2 hz A n c xs hn hown B X m xc news hR h1 hb h63 hbase
  have h6 := run_append_fresh (P := P) w base t o.type e z by_ ht h2 hz A n c xs hn hown B X m xc news hR h1 hb h63 hrun
  unfold Oper.wp execOp
  simp only [ho, resolve, invoke, builtin, Sem.run_bind, Sem.run_pure, Result.andThen_ok, List.map_toArray, List.map_cons, List.map_nil, hs, hx, hrun]
  exact hK _ _ (h A' c' w' h3 h4 h5 h6)
/-- The same, one operation of a region alone. -/
theorem wp_append_vf {P : Program} {w : World} {o : Oper} {a : Act} {K : Act → World → Prop} {Q : Exit → Act → World → Prop} (s x : Operand) (t : TypeId)
    (ho : o.op = .call { callee := .builtin .append, args := #[s, x], argTypes := #[t, t] }) (base : Nat) (e : TypeId) (z : Value) (by_ : Nat) (ht : P.underlying t = some (.slice e)) (h2 : (P.info? e).map (fun i => (i.zero, i.size, i.bytes)) = some (some z, 1, by_)) (hz : z.cells.size = 1)
    (A : Option Addr) (n c : Nat) (xs : List Value) (hn : xs.length = n) (hs : a.eval s = .slice A n c) (hown : OwnV e w base (.slice A n c) xs)
    (B : Nat) (X : Option Addr) (m xc : Nat) (news : List Value) (hx : a.eval x = .slice X m xc) (hR : RdV w B X m news) (h1 : ∀ u ∈ news, u.oneCell' = true) (hb : (n + m) * by_ ≤ 140737488355328) (h63 : n + m ≤ maxLen) (hbase : base ≤ w.heap.size)
    (h : ∀ A' c' w', OwnV e w' base (.slice A' (n + m) c') (xs ++ news) → Below base w w' → w.grownBy w' (Value.ownBlock (.slice A n c)) → (∀ k, (Value.slice A' (n + m) c').ownBlock = some k → (Value.slice A n c).ownBlock = some k ∨ w.heap.size ≤ k) → K (a.put o.dst (.slice A' (n + m) c')) w') : o.wp P a w K Q := by
  obtain ⟨A', c', w', hrun, h3, h4, h5⟩ := run_append_v (P := P) w base t o.type e z by_ ht h2 hz A n c xs hn hown B X m xc news hR h1 hb h63 hbase
  have h6 := run_append_fresh (P := P) w base t o.type e z by_ ht h2 hz A n c xs hn hown B X m xc news hR h1 hb h63 hrun
  unfold Oper.wp execOp
  simp only [ho, resolve, invoke, builtin, Sem.run_bind, Sem.run_pure, Result.andThen_ok, List.map_toArray, List.map_cons, List.map_nil, hs, hx, hrun]
  exact h A' c' w' h3 h4 h5 h6
end Go.Proofs.YtodpaeaeigjmdaaDoor.kit
