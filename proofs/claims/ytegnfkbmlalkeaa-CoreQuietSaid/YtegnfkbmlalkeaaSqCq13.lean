/- A core that is made new and only ticks: what it may be. It speaks of no program. -/
import Derived.Test.YtegnfkbmlalkeaaSqJ1
namespace Go.Proofs.Ytegnfkbmlalkeaa.cr
open Go.Proofs.Ytegnfkbmlalkeaa.nums Go.Proofs.Ytegnfkbmlalkeaa.se Go.Proofs.Ytegnfkbmlalkeaa.cf Go.Proofs.Ytegnfkbmlalkeaa.lg
set_option linter.unusedVariables false
theorem seek_in (p : Int → Bool) (lo : Int) : ∀ k, lo ≤ seekF p lo k ∧ seekF p lo k ≤ lo + k
 | 0 => by simp [seekF]
 | k + 1 => by
   have := seek_in p lo k
   unfold seekF
   split <;> omega
theorem leastL_up {c : CoL} {M : Int} (hm : ∀ k : Nat, k < 10 → c.mt k ≤ M) : ∀ (l : List Int) (s : Int), s ≤ M → (∀ v ∈ l, v.toNat < 10) → leastL c s l ≤ M
 | [], s, h, _ => h
 | v :: l, s, h, hl => by
   show leastL c (if s < 0 ∨ mtF c v < s then mtF c v else s) l ≤ M
   refine leastL_up hm l _ ?_ (fun x hx => hl x (List.mem_cons_of_mem _ hx))
   split
   · exact hm _ (hl v List.mem_cons_self)
   · exact h
theorem least_up {c : CoL} {M : Int} (hm : ∀ k : Nat, k < 10 → c.mt k ≤ M) (h0 : -1 ≤ M) : leastC c ≤ M := by
 have hl : ∀ s, ∀ v ∈ listF s, v.toNat < 10 := fun s v hv => by
   obtain ⟨j, rfl, _, h2, _⟩ := listTo_mem hv (Nat.le_refl _)
   omega
 unfold leastC twoF
 split
 · exact leastL_up hm _ _ (leastL_up hm _ _ h0 (hl _)) (hl _)
 · exact leastL_up hm _ _ h0 (hl _)
structure Fr (c : CoL) (id : Int) (j : JtL) (k : Nat) : Prop where
 id : c.id = id
 b : c.lg.b = 0
 t : c.lg.t = 0
 j : c.lg.j = j
 len : c.lg.es.length ≤ k
 kd : ∀ x ∈ c.lg.es, x.k ≠ 2
 cm : 0 ≤ c.cm ∧ c.cm ≤ (c.lg.es.length : Int)
 ro : 0 ≤ c.ro ∧ c.ro ≤ 2
 tm : 0 ≤ c.tm ∧ c.tm ≤ k
 vo : 0 ≤ c.vo ∧ c.vo ≤ 9
 le : 0 ≤ c.le ∧ c.le ≤ 9
 wa : 0 ≤ c.wa ∧ c.wa ≤ k
 sf : 0 ≤ c.sf ∧ c.sf ≤ (c.lg.es.length : Int)
 nx : ∀ i : Nat, 0 ≤ c.nx i ∧ c.nx i ≤ (c.lg.es.length : Int) + 1
 mt : ∀ i : Nat, 0 ≤ c.mt i ∧ c.mt i ≤ (c.lg.es.length : Int)
 vs : c.vs < 65536
 he : c.he < 65536
theorem confF_none : ∀ {es : List EnL} {j : JtL}, (∀ x ∈ es, x.k ≠ 2) → confF j es = j
 | [], j, _ => rfl
 | e :: es, j, h => by
   show confF (if e.k = 2 then e.j else j) es = j
   rw [if_neg (h e List.mem_cons_self)]
   exact confF_none (fun x hx => h x (List.mem_cons_of_mem _ hx))
theorem cnoL_none {b : Int} {es : List EnL} (h : ∀ x ∈ es, x.k ≠ 2) : ∀ k, cnoL b es k = b
 | 0 => rfl
 | k + 1 => by
   unfold cnoL
   have : ¬ (es[k]?).map (·.k) = some 2 := by
     intro e
     cases hx : es[k]? with
     | none => rw [hx] at e; cases e
     | some x =>
       rw [hx] at e
       exact h x (List.mem_of_getElem? hx) (Option.some.inj e)
   rw [if_neg this]
   exact cnoL_none h k
def ldC (c : CoL) : CoL := { c with ro := 2, le := c.id, wa := 0, he := 0, nx := fun _ => lastF c.lg + 1, mt := z10 }
theorem win_ld (c : CoL) : winC c = couC (pushC (ldC c) zE) := rfl
section
variable {c : CoL} {id : Int} {j : JtL} {k : Nat}
theorem Fr.last (h : Fr c id j k) : lastF c.lg = (c.lg.es.length : Int) := by unfold lastF; rw [h.b]; omega
theorem Fr.conf (h : Fr c id j k) : conC c = j := by unfold conC; rw [h.j]; exact confF_none h.kd
theorem Fr.at_ (h : Fr c id j k) : atC c.lg = 0 := by unfold atC cnoF; rw [cnoL_none h.kd]; exact h.b
theorem Fr.good (h : Fr c id j k) (hk : k ≤ 100000) (hi : 1 ≤ id ∧ id ≤ 9) (hj : mayJ j = true) : GoodK c := by
 have hl := h.last
 have hn := h.len
 have hb := h.b
 have hc := h.cm
 have hid := h.id
 refine ⟨by omega, ⟨⟨by omega, by omega, by omega⟩, by omega, by omega, by omega, by rw [h.conf]; exact mayJ_ok hj, by rw [h.conf]; exact hj, by omega, by omega⟩, by omega, h.ro, ?_, h.vo, h.le, ?_, ?_, fun i _ => ?_, fun i _ => ?_, h.vs, h.he⟩
 · have := h.tm; omega
 · have := h.wa; omega
 · have := h.sf; omega
 · have := h.nx i; omega
 · have := h.mt i; omega
theorem Fr.more (h : Fr c id j k) {m : Nat} (hm : k ≤ m) : Fr c id j m :=
 ⟨h.id, h.b, h.t, h.j, Nat.le_trans h.len hm, h.kd, h.cm, h.ro, ⟨h.tm.1, by have := h.tm; omega⟩, h.vo, h.le, ⟨h.wa.1, by have := h.wa; omega⟩, h.sf, h.nx, h.mt, h.vs, h.he⟩
theorem Fr.new (hi : 1 ≤ id ∧ id ≤ 9) : Fr (newC id j) id j 0 :=
 ⟨rfl, rfl, rfl, rfl, Nat.le_refl _, (fun x hx => by cases hx), ⟨Int.le_refl _, Int.le_refl _⟩, ⟨Int.le_refl _, by show (0 : Int) ≤ 2; omega⟩, ⟨Int.le_refl _, Int.le_refl _⟩, ⟨Int.le_refl _, by show (0 : Int) ≤ 9; omega⟩, ⟨Int.le_refl _, by show (0 : Int) ≤ 9; omega⟩, ⟨Int.le_refl _, Int.le_refl _⟩, ⟨Int.le_refl _, Int.le_refl _⟩, fun i => ⟨Int.le_refl _, by show (0 : Int) ≤ 0 + 1; omega⟩, fun i => ⟨Int.le_refl _, Int.le_refl _⟩, by show 0 < 65536; omega, by show 0 < 65536; omega⟩
theorem Fr.wait (h : Fr c id j k) : Fr { c with wa := c.wa + 1 } id j (k + 1) :=
 ⟨h.id, h.b, h.t, h.j, Nat.le_trans h.len (Nat.le_succ _), h.kd, h.cm, h.ro, ⟨h.tm.1, by have := h.tm; show c.tm ≤ _; omega⟩, h.vo, h.le, ⟨by have := h.wa; show 0 ≤ c.wa + 1; omega, by have := h.wa; show c.wa + 1 ≤ _; omega⟩, h.sf, h.nx, h.mt, h.vs, h.he⟩
theorem Fr.yield (h : Fr c id j k) : Fr (yieC c) id j k :=
 ⟨h.id, h.b, h.t, h.j, h.len, h.kd, h.cm, ⟨Int.le_refl _, by show (0 : Int) ≤ 2; omega⟩, h.tm, h.vo, ⟨Int.le_refl _, by show (0 : Int) ≤ 9; omega⟩, ⟨Int.le_refl _, by show (0 : Int) ≤ k; omega⟩, h.sf, h.nx, h.mt, h.vs, h.he⟩
theorem Fr.calm (h : Fr c id j k) : Fr { c with he := 0, wa := 0 } id j k :=
 ⟨h.id, h.b, h.t, h.j, h.len, h.kd, h.cm, h.ro, h.tm, h.vo, h.le, ⟨Int.le_refl _, by show (0 : Int) ≤ k; omega⟩, h.sf, h.nx, h.mt, h.vs, by show 0 < 65536; omega⟩
theorem Fr.stand (h : Fr c id j k) (hi : 1 ≤ id ∧ id ≤ 9) (ht : c.tm + 1 ≤ k) : Fr (standC c) id j k :=
 ⟨h.id, h.b, h.t, h.j, h.len, h.kd, h.cm, ⟨by show (0 : Int) ≤ 1; omega, by show (1 : Int) ≤ 2; omega⟩, ⟨by have := h.tm; show 0 ≤ c.tm + 1; omega, ht⟩, ⟨by have := h.id; show 0 ≤ c.id; omega, by have := h.id; show c.id ≤ 9; omega⟩, ⟨Int.le_refl _, by show (0 : Int) ≤ 9; omega⟩, ⟨Int.le_refl _, by show (0 : Int) ≤ k; omega⟩, h.sf, h.nx, h.mt, withF_lt _ (by omega), h.he⟩
theorem Fr.push (h : Fr c id j k) (x : EnL) (hx : x.k ≠ 2) : Fr (pushC c x) id j (k + 1) := by
 have hl : (pushC c x).lg.es.length = c.lg.es.length + 1 := by show (c.lg.es ++ [_]).length = _; rw [List.length_append]; rfl
 have hla := h.last
 refine ⟨h.id, h.b, h.t, h.j, by rw [hl]; have := h.len; omega, ?_, ⟨h.cm.1, ?_⟩, h.ro, ⟨h.tm.1, ?_⟩, h.vo, h.le, ⟨h.wa.1, ?_⟩, ⟨h.sf.1, ?_⟩, fun i => ⟨(h.nx i).1, ?_⟩, fun i => ?_, h.vs, h.he⟩
 · intro y hy
   rcases List.mem_append.1 hy with hy | hy
   · exact h.kd y hy
   · rw [List.mem_singleton] at hy; subst hy; exact hx
 · rw [hl]; have := h.cm.2; show c.cm ≤ _; omega
 · have := h.tm; show c.tm ≤ _; omega
 · have := h.wa; show c.wa ≤ _; omega
 · rw [hl]; have := h.sf.2; show c.sf ≤ _; omega
 · rw [hl]; have := (h.nx i).2; show c.nx i ≤ _; omega
 · rw [hl]
   show 0 ≤ upd c.mt c.id.toNat (lastF c.lg + 1) i ∧ upd c.mt c.id.toNat (lastF c.lg + 1) i ≤ _
   unfold upd
   have := h.mt i
   split <;> omega
theorem Fr.count (h : Fr c id j k) : Fr (cntC c) id j k := by
 have hs := seek_in (cmtP c) c.cm (lastF c.lg - c.cm).toNat
 have hla := h.last
 have hc := h.cm
 have hle := least_up (c := c) (M := (c.lg.es.length : Int)) (fun i _ => (h.mt i).2) (by omega)
 exact ⟨h.id, h.b, h.t, h.j, h.len, h.kd, ⟨by show 0 ≤ seekF (cmtP c) c.cm (lastF c.lg - c.cm).toNat; omega, by show seekF (cmtP c) c.cm (lastF c.lg - c.cm).toNat ≤ (c.lg.es.length : Int); omega⟩, h.ro, h.tm, h.vo, h.le, h.wa, ⟨by have := h.sf; show 0 ≤ max c.sf (leastC c); omega, by have := h.sf; show max c.sf (leastC c) ≤ (c.lg.es.length : Int); omega⟩, h.nx, h.mt, h.vs, h.he⟩
theorem Fr.end_ (h : Fr c id j k) : Fr (endC c) id j k := by
 unfold endC
 split
 · split
   · exact h
   · exact h.yield
 · exact h
theorem Fr.cou (h : Fr c id j k) (hj : j.two = false) : couC c = endC (cntC c) := by
 unfold couC
 dsimp only
 rw [if_neg]
 rw [h.count.conf, hj]
 rintro ⟨_, h2⟩
 cases h2
theorem Fr.coun (h : Fr c id j k) (hj : j.two = false) : Fr (couC c) id j k := by rw [h.cou hj]; exact h.count.end_
theorem Fr.lead (h : Fr c id j k) (hi : 1 ≤ id ∧ id ≤ 9) : Fr (ldC c) id j k := by
 have hla := h.last
 have hid := h.id
 exact ⟨h.id, h.b, h.t, h.j, h.len, h.kd, h.cm, ⟨by show (0 : Int) ≤ 2; omega, by show (2 : Int) ≤ 2; omega⟩, h.tm, h.vo, ⟨by show 0 ≤ c.id; omega, by show c.id ≤ 9; omega⟩, ⟨Int.le_refl _, by show (0 : Int) ≤ k; omega⟩, h.sf, fun i => ⟨by show 0 ≤ lastF c.lg + 1; omega, by show lastF c.lg + 1 ≤ (c.lg.es.length : Int) + 1; omega⟩, fun i => ⟨Int.le_refl _, by show (0 : Int) ≤ (c.lg.es.length : Int); omega⟩, h.vs, by show 0 < 65536; omega⟩
theorem Fr.win (h : Fr c id j k) (hi : 1 ≤ id ∧ id ≤ 9) (hj : j.two = false) : Fr (winC c) id j (k + 1) :=
 ((h.lead hi).push zE (by show (0 : Int) ≠ 2; omega)).coun hj
theorem end_same (d : CoL) : (endC d).lg = d.lg ∧ (endC d).tm = d.tm ∧ (d.wa = 0 → (endC d).wa = 0) := by
 unfold endC
 split
 · split
   · exact ⟨rfl, rfl, id⟩
   · exact ⟨rfl, rfl, fun _ => rfl⟩
 · exact ⟨rfl, rfl, id⟩
theorem Fr.won (h : Fr c id j k) (hi : 1 ≤ id ∧ id ≤ 9) (hj : j.two = false) : (winC c).lg.es.length = c.lg.es.length + 1 ∧ (winC c).tm = c.tm ∧ (winC c).wa = 0 := by
 rw [win_ld, ((h.lead hi).push zE (by show (0 : Int) ≠ 2; omega)).cou hj]
 obtain ⟨h1, h2, h3⟩ := end_same (cntC (pushC (ldC c) zE))
 rw [h1, h2, h3 rfl]
 refine ⟨?_, rfl, rfl⟩
 show (c.lg.es ++ [_]).length = _
 rw [List.length_append]; rfl
theorem Fr.tick (h : Fr c id j k) (hi : 1 ≤ id ∧ id ≤ 9) (hj : j.two = false) : Fr (tickF c).1 id j (k + 1) := by
 have hw := h.wait
 unfold tickF
 dsimp only
 split
 · split
   · split
     · exact hw.calm
     · exact hw.yield
   · exact hw
 · split
   · have hs : Fr (standC { c with wa := c.wa + 1 }) id j (k + 1) := hw.stand hi (by have := h.tm; show c.tm + 1 ≤ _; omega)
     split
     · have hw2 := hs.win hi hj
       obtain ⟨hlen, htm, hwa⟩ := hs.won hi hj
       exact ⟨hw2.id, hw2.b, hw2.t, hw2.j, by show (winC (standC { c with wa := c.wa + 1 })).lg.es.length ≤ _; rw [hlen]; have := h.len; show c.lg.es.length + 1 ≤ _; omega, hw2.kd, hw2.cm, hw2.ro, ⟨hw2.tm.1, by show (winC (standC { c with wa := c.wa + 1 })).tm ≤ _; rw [htm]; have := h.tm; show c.tm + 1 ≤ _; omega⟩, hw2.vo, hw2.le, ⟨hw2.wa.1, by show (winC (standC { c with wa := c.wa + 1 })).wa ≤ _; rw [hwa]; omega⟩, hw2.sf, hw2.nx, hw2.mt, hw2.vs, hw2.he⟩
     · exact hs
   · exact hw
end
theorem tick_idle {c : CoL} (h : c.ro ≠ 2) (hl : ledF (conC c) c.id = false) : tickF c = ({ c with wa := c.wa + 1 }, []) := by
 unfold tickF
 dsimp only
 rw [if_neg h]
 have h2 : ledF (conC { c with wa := c.wa + 1 }) c.id = false := hl
 rw [h2]
 rfl
end Go.Proofs.Ytegnfkbmlalkeaa.cr
