/- Placement as plain values: how many of each region there are, that who is taken has no more load, and that a zone is refused just where some loss is not survived. It speaks of no program. -/
import Derived.Test.YtfcljdpjjabhjaaDoorZnR
namespace Go.Proofs.YtfcljdpjjabhjaaDoor.zn
open Go.RowKit Go.Proofs.YtfcljdpjjabhjaaDoor.nums Go.Proofs.YtfcljdpjjabhjaaDoor.se Go.Proofs.YtfcljdpjjabhjaaDoor.cf
set_option linter.unusedVariables false

/-- What a step comes to. -/
theorem step_some {rs ld : List Int} {s s' : StL} {x : Nat × Nat} (h9 : rs.length ≤ 9) (h : stepF rs ld s x = some s') :
    ∃ n, s' = s.put x.2 n ∧ n = pickF (anF (regF rs (x.1 : Int)) s.u) ld ∧ 1 ≤ n ∧ n ≤ 9 ∧ (regF rs (x.1 : Int)).testBit n = true ∧ s.u.testBit n = false := by
  unfold stepF at h
  split at h
  · cases h
  · rename_i h0
    have hm := anreg_may h9 (x.1 : Int) s.u
    obtain ⟨p1, p9, pb⟩ := pick_node (ld := ld) hm (fun e => h0 ((pick_none hm).2 e))
    rw [an_bit, Bool.and_eq_true, Bool.not_eq_true'] at pb
    exact ⟨_, (Option.some.inj h).symm, rfl, p1, p9, pb.1, pb.2⟩
theorem run_ind {rs ld : List Int} {P : List (Nat × Nat) → StL → Prop} (h0 : P [] zeroS) (h1 : ∀ xs x s s', runF rs ld xs = some s → P xs s → stepF rs ld s x = some s' → P (xs ++ [x]) s') :
    ∀ (xs : List (Nat × Nat)) (s : StL), runF rs ld xs = some s → P xs s := by
  refine snoc_ind ?_ fun xs x ih => ?_
  · intro s h
    obtain rfl := Option.some.inj h
    exact h0
  · intro s h
    rw [run_snoc, Option.bind_eq_some_iff] at h
    obtain ⟨s', h2, h3⟩ := h
    exact h1 xs x s' s h2 (ih s' h2) h3
theorem put_or (s : StL) (i n : Nat) (h : s.u = s.v ||| s.w ||| s.l) : (s.put i n).u = (s.put i n).v ||| (s.put i n).w ||| (s.put i n).l := by
  have e : ∀ a b c d : Nat, (a ||| b ||| c) ||| d = (a ||| d) ||| b ||| c ∧ (a ||| b ||| c) ||| d = a ||| (b ||| d) ||| c ∧ (a ||| b ||| c) ||| d = a ||| b ||| (c ||| d) := fun a b c d => by
    refine ⟨?_, ?_, ?_⟩ <;>
    · apply Nat.eq_of_testBit_eq
      intro i
      simp only [Nat.testBit_or]
      cases a.testBit i <;> cases b.testBit i <;> cases c.testBit i <;> simp
  match i with
  | 0 => show s.u ||| _ = _; rw [h]; exact (e _ _ _ _).1
  | 1 => show s.u ||| _ = _; rw [h]; exact (e _ _ _ _).2.1
  | _ + 2 => show s.u ||| _ = _; rw [h]; exact (e _ _ _ _).2.2
theorem run_union {rs ld : List Int} (h9 : rs.length ≤ 9) (xs : List (Nat × Nat)) (s : StL) (h : runF rs ld xs = some s) : s.u = s.v ||| s.w ||| s.l := by
  refine run_ind (P := fun _ s => s.u = s.v ||| s.w ||| s.l) rfl (fun xs x s s' _ ih h3 => ?_) xs s h
  obtain ⟨n, rfl, _⟩ := step_some h9 h3
  exact put_or s x.2 n ih
theorem sel_sub {s : StL} (h : s.u = s.v ||| s.w ||| s.l) (i k : Nat) (hb : (s.sel i).testBit k = true) : s.u.testBit k = true := by
  rw [h, Nat.testBit_or, Nat.testBit_or]
  match i with
  | 0 => have : s.v.testBit k = true := hb
         simp [this]
  | 1 => have : s.w.testBit k = true := hb
         simp [this]
  | _ + 2 => have : s.l.testBit k = true := hb
             simp [this]
theorem same_reg {rs : List Int} (h9 : rs.length ≤ 9) {r q : Int} {k : Nat} (h1 : (regF rs r).testBit k = true) (h2 : (regF rs q).testBit k = true) : r = q := by
  rw [reg_bit h9, decide_eq_true_eq] at h1 h2
  omega
/-- Who is taken has no more load than who of the region is not. -/
theorem run_best {rs ld : List Int} (h9 : rs.length ≤ 9) (xs : List (Nat × Nat)) (s : StL) (h : runF rs ld xs = some s) :
    ∀ (r : Int) (a b : Nat), (regF rs r).testBit a = true → (regF rs r).testBit b = true → s.u.testBit a = true → s.u.testBit b = false → nodeLd ld a < nodeLd ld b ∨ (nodeLd ld a = nodeLd ld b ∧ a ≤ b) := by
  refine run_ind (P := fun _ s => ∀ (r : Int) (a b : Nat), (regF rs r).testBit a = true → (regF rs r).testBit b = true → s.u.testBit a = true → s.u.testBit b = false → nodeLd ld a < nodeLd ld b ∨ (nodeLd ld a = nodeLd ld b ∧ a ≤ b)) ?_ (fun xs x s s' _ ih h3 => ?_) xs s h
  · intro r a b _ _ h _; simp [zeroS] at h
  · obtain ⟨n, rfl, hn, n1, n9, nr, nu⟩ := step_some h9 h3
    intro r a b ha hb hua hub
    rw [put_u, with_bit n1 n9] at hua hub
    rw [Bool.or_eq_false_iff, decide_eq_false_iff_not] at hub
    rw [Bool.or_eq_true, decide_eq_true_eq] at hua
    rcases hua with hua | rfl
    · exact ih r a b ha hb hua hub.1
    · obtain rfl := same_reg h9 nr ha
      have hbf : (anF (regF rs (x.1 : Int)) s.u).testBit b = true := by rw [an_bit, hb, hub.1]; rfl
      have h19 := may_bits.1 (anreg_may h9 (x.1 : Int) s.u) b hbf
      have := pick_min (ld := ld) b h19.1 h19.2 hbf
      rw [hn]
      exact this
theorem cnt_with {s n : Nat} (h1 : 1 ≤ n) (h9 : n ≤ 9) (hb : s.testBit n = false) : ∀ k, k ≤ 9 → cntTo (withF s (n : Int)) k = cntTo s k + (decide (n ≤ k)).toNat := by
  intro k hk
  induction k with
  | zero => simp only [cntTo]; rw [decide_eq_false (by omega)]; rfl
  | succ k ih =>
    simp only [cntTo]
    rw [ih (by omega), with_bit h1 h9]
    by_cases e : k + 1 = n
    · subst e
      rw [hb, decide_eq_false (by omega), decide_eq_true (by omega), decide_eq_true (by omega)]
      simp
    · rw [decide_eq_false e, Bool.or_false]
      have : decide (n ≤ k) = decide (n ≤ k + 1) := by rw [decide_eq_decide]; omega
      rw [this]; omega
/-- How many of a region each set has. -/
theorem run_count {rs ld : List Int} (h9 : rs.length ≤ 9) (xs : List (Nat × Nat)) (s : StL) (h : runF rs ld xs = some s) :
    (s.u = s.v ||| s.w ||| s.l ∧ ∀ (i r : Nat), i < 3 → (∀ x ∈ xs, x.2 < 3) → cntTo (s.sel i &&& regF rs (r : Int)) 9 = xs.count (r, i)) := by
  refine run_ind (P := fun xs s => s.u = s.v ||| s.w ||| s.l ∧ ∀ (i r : Nat), i < 3 → (∀ x ∈ xs, x.2 < 3) → cntTo (s.sel i &&& regF rs (r : Int)) 9 = xs.count (r, i)) ?_ (fun xs x s s' _ ih h3 => ?_) xs s h
  · refine ⟨rfl, fun i r hi _ => ?_⟩
    have : zeroS.sel i = 0 := by
      match i with
      | 0 => rfl
      | 1 => rfl
      | _ + 2 => rfl
    rw [this, Nat.zero_and, cnt_zero]; rfl
  · obtain ⟨n, rfl, hn, n1, n9, nr, nu⟩ := step_some h9 h3
    obtain ⟨hU, ih⟩ := ih
    refine ⟨put_or s x.2 n hU, fun i r hi hx => ?_⟩
    have hx2 : x.2 < 3 := hx x (by simp)
    have ih2 := ih i r hi fun y hy => hx y (List.mem_append_left _ hy)
    rw [List.count_append, ← ih2, sel_put s hx2 hi]
    by_cases e : i = x.2
    · subst e
      rw [if_pos rfl]
      have hnot : (s.sel x.2).testBit n = false := by
        cases hb : (s.sel x.2).testBit n
        · rfl
        · rw [sel_sub hU _ _ hb] at nu; cases nu
      by_cases er : x.1 = r
      · subst er
        have e2 : withF (s.sel x.2) (n : Int) &&& regF rs (x.1 : Int) = withF (s.sel x.2 &&& regF rs (x.1 : Int)) (n : Int) := by
          apply Nat.eq_of_testBit_eq
          intro k
          rw [Nat.testBit_and, with_bit n1 n9, with_bit n1 n9, Nat.testBit_and]
          by_cases ek : k = n
          · subst ek; simp [nr]
          · simp [ek]
        rw [e2, cnt_with n1 n9 (by rw [Nat.testBit_and, hnot]; rfl) 9 (Nat.le_refl _), decide_eq_true n9]
        simp
      · have e2 : withF (s.sel x.2) (n : Int) &&& regF rs (r : Int) = s.sel x.2 &&& regF rs (r : Int) := by
          apply Nat.eq_of_testBit_eq
          intro k
          rw [Nat.testBit_and, with_bit n1 n9, Nat.testBit_and]
          by_cases ek : k = n
          · subst ek
            cases hb : (regF rs (r : Int)).testBit k
            · simp
            · have := same_reg h9 nr hb; omega
          · simp [ek]
        rw [e2]
        have : List.count (r, x.2) [x] = 0 := by
          rw [List.count_eq_zero]
          simp only [List.mem_singleton]
          intro h; exact er (by rw [← h])
        rw [this]; rfl
    · rw [if_neg e]
      have : List.count (r, i) [x] = 0 := by
        rw [List.count_eq_zero]
        simp only [List.mem_singleton]
        intro h; exact e (by rw [← h])
      rw [this]; rfl
theorem regP_count (z : ZnL) (q r i : Nat) : ∀ I, (regP z q I).count (r, i) = if q = r ∧ i < I then z.cnt i r else 0 := by
  intro I
  induction I with
  | zero => simp [regP]
  | succ I ih =>
    rw [reg_succ, List.count_append, ih, List.count_replicate]
    by_cases h1 : q = r
    · subst h1
      by_cases h2 : i = I
      · subst h2; simp
      · have : ¬ ((q, I) == (q, i)) = true := by simp; omega
        rw [if_neg this]
        by_cases h3 : i < I
        · rw [if_pos ⟨rfl, h3⟩, if_pos ⟨rfl, by omega⟩]; rfl
        · rw [if_neg (by omega), if_neg (by omega)]
    · have : ¬ ((q, I) == (r, i)) = true := by simp; omega
      rw [if_neg this, if_neg (fun h => h1 h.1), if_neg (fun h => h1 h.1)]
theorem pre_count (z : ZnL) (r i : Nat) (hi : i < 3) : ∀ R, (preF z R).count (r, i) = if r < R then z.cnt i r else 0 := by
  intro R
  induction R with
  | zero => simp [preF]
  | succ R ih =>
    rw [pre_succ, List.count_append, ih, regP_count]
    by_cases h1 : r < R
    · rw [if_pos h1, if_neg (by omega), if_pos (by omega)]; rfl
    · by_cases h2 : R = r
      · subst h2; rw [if_neg h1, if_pos ⟨rfl, hi⟩, if_pos (by omega)]; omega
      · rw [if_neg h1, if_neg (by omega), if_neg (by omega)]
theorem pre_kind (z : ZnL) (R : Nat) : ∀ x ∈ preF z R, x.2 < 3 := by
  intro x hx
  unfold preF regP at hx
  simp only [List.mem_flatMap, List.mem_range, List.mem_replicate] at hx
  obtain ⟨q, hq, i, hi, _, rfl⟩ := hx
  exact hi
/-- One node more of a region. -/
theorem cnt_reg {rs : List Int} {S j : Nat} {x r : Int} (h9 : rs.length ≤ 9) (hx : rs[j]? = some x) : cntTo (S &&& regF rs r) (j + 1) = cntTo (S &&& regF rs r) j + (decide (x = r) && hasF S ((j + 1 : Nat) : Int)).toNat := by
  obtain ⟨hj, rfl⟩ := List.getElem?_eq_some_iff.1 hx
  simp only [cntTo]
  rw [Nat.testBit_and, reg_bit h9, hasF_node (by omega) (by omega)]
  have e : rs.getD (j + 1 - 1) (-1) = rs[j] := by rw [List.getD_eq_getElem?_getD, show j + 1 - 1 = j by omega, List.getElem?_eq_getElem hj]; rfl
  rw [e]
  have e2 : decide (1 ≤ j + 1 ∧ j + 1 ≤ rs.length ∧ rs[j] = r) = decide (rs[j] = r) := by
    rw [decide_eq_decide]
    exact ⟨fun h => h.2.2, fun h => ⟨by omega, by omega, h⟩⟩
  rw [e2, Bool.and_comm]
theorem cnt_all {rs : List Int} {S : Nat} {r : Int} (h9 : rs.length ≤ 9) : ∀ k, rs.length ≤ k → k ≤ 9 → cntTo (S &&& regF rs r) k = cntTo (S &&& regF rs r) rs.length := by
  intro k hk h
  induction k with
  | zero => obtain e : rs.length = 0 := by omega
            rw [e]
  | succ k ih =>
    by_cases e : rs.length = k + 1
    · rw [e]
    · rw [← ih (by omega) (by omega)]
      simp only [cntTo]
      rw [Nat.testBit_and, reg_bit h9, decide_eq_false (by omega)]
      simp
/-- What is left when k, or all of region k, is lost; of the first j nodes. -/
def stayB (rs : List Int) (sv k : Int) (j : Nat) : Bool := decide (sv = 0) || (decide (sv = 1) && decide (((j + 1 : Nat) : Int) ≠ k)) || (decide (sv = 2) && decide (rs.getD j (-1) ≠ k))
def leftTo (rs : List Int) (sv k : Int) : Nat → Nat
  | 0 => 0
  | j + 1 => if stayB rs sv k j = true then withF (leftTo rs sv k j) ((j + 1 : Nat) : Int) else leftTo rs sv k j
theorem left_bit (rs : List Int) (sv k : Int) (i : Nat) : ∀ j, j ≤ 9 → (leftTo rs sv k j).testBit i = (decide (1 ≤ i ∧ i ≤ j) && stayB rs sv k (i - 1)) := by
  intro j hj
  induction j with
  | zero => rw [decide_eq_false (by omega)]; simp [leftTo]
  | succ j ih =>
    unfold leftTo
    by_cases e : i = j + 1
    · subst e
      rw [show j + 1 - 1 = j by omega, decide_eq_true (by omega)]
      have h0 : (leftTo rs sv k j).testBit (j + 1) = false := by rw [ih (by omega), decide_eq_false (by omega)]; rfl
      split
      · rename_i h; rw [with_bit (by omega) hj, h]; simp
      · rename_i h; rw [h0]; simpa using h
    · have e2 : decide (1 ≤ i ∧ i ≤ j) = decide (1 ≤ i ∧ i ≤ j + 1) := by rw [decide_eq_decide]; omega
      split
      · rw [with_bit (by omega) hj, decide_eq_false e, Bool.or_false, ih (by omega), e2]
      · rw [ih (by omega), e2]
theorem leftTo_may (rs : List Int) (sv k : Int) (j : Nat) (hj : j ≤ 9) : mayF (leftTo rs sv k j) = true := by
  rw [may_bits]
  intro i hi
  rw [left_bit rs sv k i j hj, Bool.and_eq_true, decide_eq_true_eq] at hi
  omega
/-- What loss k takes away. -/
def goneF (rs : List Int) (sv : Int) (k : Nat) : Nat := if sv = 1 ∧ 1 ≤ k ∧ k ≤ rs.length then 2 ^ k else if sv = 2 ∧ k < 4 then regF rs (k : Int) else 0
def brkF (d : CfL) (left : Nat) : Bool := !elC d left || !coC d left || decide (meetF left d.v = 0)
theorem left_gone {rs : List Int} {sv : Int} (h9 : rs.length ≤ 9) (hW : withinB rs 3 = true) (hs : mayS sv = true) (k i : Nat) (h1 : 1 ≤ i) (hi : i ≤ rs.length) : (leftTo rs sv (k : Int) rs.length).testBit i = !(goneF rs sv k).testBit i := by
  rw [left_bit rs sv k i _ h9, decide_eq_true ⟨h1, hi⟩, Bool.true_and]
  unfold mayS at hs
  simp only [Bool.and_eq_true, decide_eq_true_eq] at hs
  unfold stayB goneF
  have hs3 : sv = 0 ∨ sv = 1 ∨ sv = 2 := by omega
  rcases hs3 with rfl | rfl | rfl
  · simp
  · by_cases e : 1 ≤ k ∧ k ≤ rs.length
    · rw [if_pos ⟨rfl, e⟩, Nat.testBit_two_pow, show i - 1 + 1 = i by omega]
      by_cases ek : k = i
      · subst ek; simp
      · have : ((i : Int) ≠ (k : Int)) := by omega
        simp [this, ek]
    · rw [if_neg (fun h => e h.2), if_neg (show ¬ ((1 : Int) = 2 ∧ k < 4) from fun h => absurd h.1 (by decide)), show i - 1 + 1 = i by omega]
      have : ((i : Int) ≠ (k : Int)) := by omega
      simp [this]
  · rw [if_neg (show ¬ ((2 : Int) = 1 ∧ 1 ≤ k ∧ k ≤ rs.length) from fun h => absurd h.1 (by decide))]
    have hg : ∃ x, rs[i - 1]? = some x := ⟨rs[i-1]'(by omega), List.getElem?_eq_getElem _⟩
    obtain ⟨x, hx⟩ := hg
    obtain ⟨x0, x3⟩ := within_get hW hx
    have hd : rs.getD (i - 1) (-1) = x := by rw [List.getD_eq_getElem?_getD, hx]; rfl
    by_cases e : k < 4
    · rw [if_pos ⟨rfl, e⟩, reg_bit h9, hd]
      by_cases ek : x = (k : Int)
      · have hb : decide (1 ≤ i ∧ i ≤ rs.length ∧ x = (k : Int)) = true := decide_eq_true ⟨h1, hi, ek⟩
        rw [hb]; simp [ek]
      · have hb : decide (1 ≤ i ∧ i ≤ rs.length ∧ x = (k : Int)) = false := decide_eq_false (fun h => ek h.2.2)
        rw [hb]; simp [ek]
    · rw [if_neg (fun h => e h.2), hd]
      have : x ≠ (k : Int) := by omega
      simp [this]
theorem brk_gone {d : CfL} {left g : Nat} (hv : mayF d.v = true) (hb : ∀ i, (votF d).testBit i = true → left.testBit i = !g.testBit i) : brkF d left = !withoutF d g := by
  have hv2 : ∀ i, d.v.testBit i = true → (votF d).testBit i = true := fun i h => by unfold votF; rw [Nat.testBit_or, h]; rfl
  have e1 : left &&& votF d = anF (votF d) g := by
    apply Nat.eq_of_testBit_eq
    intro i
    rw [Nat.testBit_and, an_bit]
    cases h : (votF d).testBit i
    · simp
    · rw [hb i h]; simp
  have e2 : left &&& d.v = anF d.v g := by
    apply Nat.eq_of_testBit_eq
    intro i
    rw [Nat.testBit_and, an_bit]
    cases h : d.v.testBit i
    · simp
    · rw [hb i (hv2 i h)]; simp
  have e3 : meetF left d.v = anF d.v g := by
    have hm := an_may g hv
    unfold meetF
    rw [e2]
    exact may_iff.1 hm
  have e4 : decide (0 < cntF (anF d.v g)) = !decide (anF d.v g = 0) := by
    have := cnt_eq_zero (an_may g hv)
    by_cases h : anF d.v g = 0
    · rw [decide_eq_true h, decide_eq_false (by have := this.2 h; omega)]; rfl
    · rw [decide_eq_false h, decide_eq_true (by have := mt this.1 h; omega)]; rfl
  unfold brkF elC coC withoutF
  rw [e1, e3, e2, e4]
  cases decide (d.e ≤ (cntF (anF (votF d) g) : Int)) <;> cases decide (d.k ≤ (cntF (anF (votF d) g) : Int)) <;> by_cases h : anF d.v g = 0 <;> simp [h]
theorem an_zero (a : Nat) : anF a 0 = a := by
  apply Nat.eq_of_testBit_eq
  intro i
  rw [an_bit]; simp
theorem without_none {d : CfL} (h : mayC d = true) : withoutF d 0 = true := by
  obtain ⟨h1, _, _, h4, _, h6, _, h8, _⟩ := may_parts h
  unfold withoutF
  rw [an_zero, an_zero, decide_eq_true h6, decide_eq_true h8]
  have := mt (cnt_eq_zero h1).1 h4
  rw [decide_eq_true (by omega)]; rfl
/-- Some loss breaks it just where it does not survive. -/
theorem breaks_all {rs : List Int} {d : CfL} {sv : Int} (hR : mayR rs = true) (hs : mayS sv = true) (hm : mayC d = true) :
    ((List.range 10).any fun k => !withoutF d (goneF rs sv k)) = !(survF rs d sv).1 := by
  obtain ⟨h1, h9, hW⟩ := mayR_len hR
  have hsv := hs
  unfold mayS at hsv
  simp only [Bool.and_eq_true, decide_eq_true_eq] at hsv
  have key : (∃ k, k < 10 ∧ withoutF d (goneF rs sv k) = false) ↔ (∃ g ∈ lossL rs sv, withoutF d g = false) := by
    have hs3 : sv = 0 ∨ sv = 1 ∨ sv = 2 := by omega
    unfold lossL goneF
    rcases hs3 with rfl | rfl | rfl
    · simp [without_none hm]
    · simp only [if_true, true_and]
      constructor
      · rintro ⟨k, hk, h⟩
        by_cases e : 1 ≤ k ∧ k ≤ rs.length
        · rw [if_pos e] at h
          refine ⟨2 ^ k, ?_, h⟩
          rw [List.mem_map]
          exact ⟨k - 1, List.mem_range.2 (by omega), by rw [show k - 1 + 1 = k by omega]; exact bitF_node e.1 (by omega)⟩
        · rw [if_neg e, if_neg (by simp), without_none hm] at h; cases h
      · rintro ⟨g, hg, h⟩
        rw [List.mem_map] at hg
        obtain ⟨i, hi, rfl⟩ := hg
        rw [List.mem_range] at hi
        refine ⟨i + 1, by omega, ?_⟩
        rw [if_pos ⟨by omega, by omega⟩]
        rw [bitF_node (by omega) (by omega)] at h
        exact h
    · simp only [show ¬ (2 : Int) = 1 by decide, if_false, if_true, true_and, false_and]
      constructor
      · rintro ⟨k, hk, h⟩
        by_cases e : k < 4
        · rw [if_pos e] at h
          exact ⟨_, List.mem_map.2 ⟨k, List.mem_range.2 e, rfl⟩, h⟩
        · rw [if_neg e, without_none hm] at h; cases h
      · rintro ⟨g, hg, h⟩
        rw [List.mem_map] at hg
        obtain ⟨i, hi, rfl⟩ := hg
        rw [List.mem_range] at hi
        exact ⟨i, by omega, by rw [if_pos hi]; exact h⟩
  have hsurv : (survF rs d sv).1 = false ↔ ∃ g ∈ lossL rs sv, withoutF d g = false := by
    unfold survF
    rw [hR, hs]
    simp only [Bool.and_self, if_true]
    cases hf : (lossL rs sv).findIdx? (fun g => !withoutF d g) with
    | none =>
      rw [List.findIdx?_eq_none_iff] at hf
      constructor
      · intro h; cases h
      · rintro ⟨g, hg, h⟩
        have := hf g hg
        rw [h] at this; cases this
    | some i =>
      rw [List.findIdx?_eq_some_iff_getElem] at hf
      obtain ⟨hi, hb, _⟩ := hf
      exact ⟨fun _ => ⟨_, List.getElem_mem hi, by simpa using hb⟩, fun _ => rfl⟩
  rw [Bool.eq_iff_iff, List.any_eq_true]
  simp only [List.mem_range, Bool.not_eq_true']
  rw [hsurv, ← key]
theorem allot_inv {rs ld : List Int} {z : ZnL} {c : CfL} (h : allotF rs z ld = (c, 0)) : mayR rs = true ∧ mayZ z = true ∧ ∃ s, runF rs ld (picksF z) = some s ∧ c = confOf z s := by
  by_cases h1 : (mayR rs && mayZ z) = true
  · rw [Bool.and_eq_true] at h1
    cases hr : runF rs ld (picksF z) with
    | none =>
      rw [allot_full h1.1 h1.2 hr] at h
      injection h with h2 h3
      cases h3
    | some s =>
      rw [allot_fine h1.1 h1.2 hr] at h
      injection h with h2 h3
      exact ⟨h1.1, h1.2, s, rfl, h2.symm⟩
  · rw [allot_arg (by simpa using h1)] at h
    injection h with h2 h3
    cases h3
theorem balance {rs ld : List Int} {z : ZnL} {c : CfL} (h : allotF rs z ld = (c, 0)) {i j : Nat} {x : Int} (hi : rs[i]? = some x) (hj : rs[j]? = some x) (ha : hasF (memF c) ((i + 1 : Nat) : Int) = true) (hb : hasF (memF c) ((j + 1 : Nat) : Int) = false) :
    nodeLd ld (i + 1) < nodeLd ld (j + 1) ∨ (nodeLd ld (i + 1) = nodeLd ld (j + 1) ∧ i ≤ j) := by
  obtain ⟨hR, hZ, s, hs, rfl⟩ := allot_inv h
  have h9 := (mayR_len hR).2.1
  have hU := run_union h9 _ _ hs
  have hM : memF (confOf z s) = s.u := hU.symm
  rw [hM] at ha hb
  have li := (List.getElem?_eq_some_iff.1 hi).1
  have lj := (List.getElem?_eq_some_iff.1 hj).1
  rw [hasF_node (by omega) (by omega)] at ha hb
  have bit : ∀ k, rs[k]? = some x → (regF rs x).testBit (k + 1) = true := fun k hk => by
    have lk := (List.getElem?_eq_some_iff.1 hk).1
    rw [reg_bit h9, decide_eq_true_eq]
    exact ⟨by omega, by omega, by rw [List.getD_eq_getElem?_getD, show k + 1 - 1 = k by omega, hk]; rfl⟩
  have := run_best h9 _ _ hs x (i + 1) (j + 1) (bit i hi) (bit j hj) ha hb
  omega
/-- What Check answers, taken apart. -/
theorem check_cases {rs ld : List Int} {z : ZnL} {c : CfL} {e : Int} (h : checkF rs z ld = (c, e)) :
    (e ≠ 0 ∧ e ≠ 12 ∧ c = zeroC) ∨ ((e = 0 ∨ e = 12) ∧ mayR rs = true ∧ mayZ z = true ∧ ∃ s, runF rs ld (picksF z) = some s ∧ allotF rs z ld = (confOf z s, 0) ∧ mayC (confOf z s) = true ∧ (e = 0 → c = confOf z s) ∧ (decide (e = 12) = !(survF rs (confOf z s) z.s).1)) := by
  by_cases h1 : (mayR rs && mayZ z) = true
  · rw [Bool.and_eq_true] at h1
    cases hr : runF rs ld (picksF z) with
    | none =>
      left
      have := check_err (allot_full h1.1 h1.2 hr) (by decide)
      rw [this] at h
      injection h with h2 h3
      subst h2 h3
      exact ⟨by decide, by decide, rfl⟩
    | some s =>
      have ha := allot_fine h1.1 h1.2 hr
      cases hm : mayC (confOf z s)
      · left
        have := check_quo ha rfl hm
        rw [this] at h
        injection h with h2 h3
        subst h2 h3
        exact ⟨by decide, by decide, rfl⟩
      · right
        cases hs : (survF rs (confOf z s) z.s).1
        · have := check_zone ha rfl hm hs
          rw [this] at h
          injection h with h2 h3
          subst h2 h3
          exact ⟨.inr rfl, h1.1, h1.2, s, rfl, ha, hm, (by intro h; cases h), by rw [hs]; rfl⟩
        · have := check_fine ha rfl hm hs
          rw [this] at h
          injection h with h2 h3
          subst h2 h3
          exact ⟨.inl rfl, h1.1, h1.2, s, rfl, ha, hm, fun _ => rfl, by rw [hs]; rfl⟩
  · left
    have h1' : (mayR rs && mayZ z) = false := by simpa using h1
    have := check_err (allot_arg (ld := ld) h1') (by decide)
    rw [this] at h
    injection h with h2 h3
    subst h2 h3
    exact ⟨by decide, by decide, rfl⟩
end Go.Proofs.YtfcljdpjjabhjaaDoor.zn
