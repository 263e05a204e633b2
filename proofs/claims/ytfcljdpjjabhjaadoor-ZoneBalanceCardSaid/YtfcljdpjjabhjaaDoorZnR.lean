/- Placement as plain values: what is taken one by one, which sets it makes. It speaks of no program. -/
import Derived.Test.YtfcljdpjjabhjaaDoorZn
namespace Go.Proofs.YtfcljdpjjabhjaaDoor.zn
open Go.RowKit Go.Proofs.YtfcljdpjjabhjaaDoor.nums Go.Proofs.YtfcljdpjjabhjaaDoor.se Go.Proofs.YtfcljdpjjabhjaaDoor.cf
set_option linter.unusedVariables false

theorem snoc_ind {α : Type} {P : List α → Prop} (h0 : P []) (h1 : ∀ xs x, P xs → P (xs ++ [x])) (xs : List α) : P xs := by
  have : ∀ l : List α, P l.reverse := fun l => by
    induction l with
    | nil => exact h0
    | cons x l ih => rw [List.reverse_cons]; exact h1 _ _ ih
  rw [← List.reverse_reverse xs]; exact this _
theorem sel_put (s : StL) {i k n : Nat} (hi : i < 3) (hk : k < 3) : (s.put i n).sel k = if k = i then withF (s.sel i) (n : Int) else s.sel k := by
  match i, k, hi, hk with
  | 0, 0, _, _ => rfl
  | 0, 1, _, _ => rfl
  | 0, 2, _, _ => rfl
  | 1, 0, _, _ => rfl
  | 1, 1, _, _ => rfl
  | 1, 2, _, _ => rfl
  | 2, 0, _, _ => rfl
  | 2, 1, _, _ => rfl
  | 2, 2, _, _ => rfl
theorem put_u (s : StL) (i n : Nat) : (s.put i n).u = withF s.u (n : Int) := by
  match i with
  | 0 => rfl
  | 1 => rfl
  | _ + 2 => rfl
theorem anreg_may {rs : List Int} (h9 : rs.length ≤ 9) (r : Int) (u : Nat) : mayF (anF (regF rs r) u) = true := an_may u (reg_may h9 r)
/-- What choosing from what is free of a region is, in words of what has been taken. -/
theorem choose_run {rs ld : List Int} {xs : List (Nat × Nat)} {s : StL} {r i : Nat} (h9 : rs.length ≤ 9) (hi : i < 3) (h : runF rs ld xs = some s) (j : Nat) :
    (runF rs ld (xs ++ List.replicate j (r, i)) = none ∧ chooseTo ld (s.sel i) (anF (regF rs (r : Int)) s.u) j = none) ∨
    ∃ s', runF rs ld (xs ++ List.replicate j (r, i)) = some s' ∧ chooseTo ld (s.sel i) (anF (regF rs (r : Int)) s.u) j = some (s'.sel i, anF (regF rs (r : Int)) s'.u) ∧ ∀ k, k < 3 → k ≠ i → s'.sel k = s.sel k := by
  induction j with
  | zero => exact .inr ⟨s, by simpa using h, rfl, fun k _ _ => rfl⟩
  | succ j ih =>
    rw [rep_succ, run_snoc]
    rcases ih with ⟨h1, h2⟩ | ⟨s', h1, h2, h3⟩
    · left
      rw [h1]
      exact ⟨rfl, choose_none h2 (by omega)⟩
    · rw [h1]
      have hm := anreg_may h9 (r : Int) s'.u
      have hz := pick_none (ld := ld) hm
      simp only [Option.bind_some]
      unfold stepF
      by_cases h0 : pickF (anF (regF rs (r : Int)) s'.u) ld = 0
      · left
        rw [if_pos h0]
        refine ⟨rfl, ?_⟩
        have := hz.1 h0
        rw [this] at h2
        exact choose_zero h2 (by omega)
      · right
        rw [if_neg h0]
        obtain ⟨p1, p9, _⟩ := pick_node (ld := ld) hm (fun e => h0 (hz.2 e))
        refine ⟨_, rfl, ?_, fun k hk hki => ?_⟩
        · rw [choose_succ h2 (fun e => h0 (hz.2 e)), less_an p1 p9]
          dsimp only
          rw [sel_put _ hi hi, if_pos rfl, put_u]
        · rw [sel_put _ hi hk, if_neg hki, h3 k hk hki]
/-- What has been taken lies in the regions that were named. -/
theorem run_used {rs ld : List Int} (h9 : rs.length ≤ 9) : ∀ (xs : List (Nat × Nat)) (s : StL), runF rs ld xs = some s → ∀ i, s.u.testBit i = true → ∃ x ∈ xs, (regF rs (x.1 : Int)).testBit i = true := by
  refine snoc_ind ?_ fun xs x ih => ?_
  · intro s h i hi
    obtain rfl := Option.some.inj h
    simp [zeroS] at hi
  · intro s h i hi
    rw [run_snoc, Option.bind_eq_some_iff] at h
    obtain ⟨s', h1, h2⟩ := h
    unfold stepF at h2
    split at h2
    · cases h2
    · rename_i h0
      obtain rfl := Option.some.inj h2
      have hm := anreg_may h9 (x.1 : Int) s'.u
      obtain ⟨p1, p9, pb⟩ := pick_node (ld := ld) hm (fun e => h0 ((pick_none hm).2 e))
      rw [put_u, with_bit p1 p9, Bool.or_eq_true, decide_eq_true_eq] at hi
      rcases hi with hi | rfl
      · obtain ⟨y, hy, hb⟩ := ih s' h1 i hi
        exact ⟨y, List.mem_append_left _ hy, hb⟩
      · rw [an_bit, Bool.and_eq_true] at pb
        exact ⟨x, by simp, pb.1⟩
theorem pre_lt (z : ZnL) (r : Nat) : ∀ x ∈ preF z r, x.1 < r := by
  intro x hx
  unfold preF regP at hx
  simp only [List.mem_flatMap, List.mem_range, List.mem_replicate] at hx
  obtain ⟨q, hq, i, _, _, rfl⟩ := hx
  exact hq
/-- At its start a region is free. -/
theorem reg_free {rs ld : List Int} {z : ZnL} {r : Nat} {s : StL} (h9 : rs.length ≤ 9) (h : runF rs ld (preF z r) = some s) : anF (regF rs (r : Int)) s.u = regF rs (r : Int) := by
  apply Nat.eq_of_testBit_eq
  intro i
  rw [an_bit]
  cases hu : s.u.testBit i
  · simp
  · obtain ⟨x, hx, hb⟩ := run_used h9 _ _ h i hu
    have hlt := pre_lt z r x hx
    rw [reg_bit h9, decide_eq_true_eq] at hb
    cases hb2 : (regF rs (r : Int)).testBit i
    · rfl
    · rw [reg_bit h9, decide_eq_true_eq] at hb2
      omega
theorem picks_reg (z : ZnL) {r i : Nat} (hr : r < 4) (hi : i ≤ 3) : ∃ t, picksF z = (preF z r ++ regP z r i) ++ t := by
  obtain ⟨t1, h1⟩ := pre_le z (r + 1) 4 (by omega)
  obtain ⟨t2, h2⟩ := regP_le z r i 3 hi
  exact ⟨t2 ++ t1, by unfold picksF; rw [h1, pre_succ, h2]; simp only [List.append_assoc]⟩
theorem fail_reg {rs ld : List Int} {z : ZnL} {r i : Nat} (hr : r < 4) (hi : i ≤ 3) (h : runF rs ld (preF z r ++ regP z r i) = none) : runF rs ld (picksF z) = none := by
  obtain ⟨t, ht⟩ := picks_reg z hr hi
  rw [ht]; exact run_none h
theorem fail_at {rs ld : List Int} {z : ZnL} {r i k : Nat} (hr : r < 4) (hi : i < 3) (hk : k ≤ z.cnt i r) (h : runF rs ld (preF z r ++ regP z r i ++ List.replicate k (r, i)) = none) : runF rs ld (picksF z) = none := by
  obtain ⟨t, ht⟩ := picks_at z hr hi hk
  rw [ht]; exact run_none h
theorem may_lists {z : ZnL} (h : mayZ z = true) (i : Nat) : mayL (z.lst i) = true := by
  unfold mayZ at h
  simp only [Bool.and_eq_true] at h
  match i with
  | 0 => exact h.1.1.1.1.1
  | 1 => exact h.1.1.1.1.2
  | _ + 2 => exact h.1.1.1.2
theorem cnt_cast {z : ZnL} (h : mayZ z = true) (i r : Nat) : (z.lst i).getD r 0 = (z.cnt i r : Int) ∧ z.cnt i r ≤ 9 := by
  have hL := may_lists h i
  unfold mayL at hL
  rw [Bool.and_eq_true] at hL
  unfold ZnL.cnt
  rw [List.getD_eq_getElem?_getD]
  cases hx : (z.lst i)[r]? with
  | none => simp
  | some x =>
    obtain ⟨h1, h2⟩ := within_get hL.2 hx
    simp only [Option.getD_some]
    omega
/-- The sets that come of it hold nodes only. -/
theorem run_may {rs ld : List Int} (h9 : rs.length ≤ 9) : ∀ (xs : List (Nat × Nat)) (s : StL), runF rs ld xs = some s → mayF s.v = true ∧ mayF s.w = true ∧ mayF s.l = true ∧ mayF s.u = true := by
  refine snoc_ind ?_ fun xs x ih => ?_
  · intro s h
    obtain rfl := Option.some.inj h
    exact ⟨may_zero, may_zero, may_zero, may_zero⟩
  · intro s h
    rw [run_snoc, Option.bind_eq_some_iff] at h
    obtain ⟨s', h1, h2⟩ := h
    unfold stepF at h2
    split at h2
    · cases h2
    · obtain rfl := Option.some.inj h2
      obtain ⟨a, b, c, d⟩ := ih s' h1
      match x.2 with
      | 0 => exact ⟨may_with _ a, b, c, may_with _ d⟩
      | 1 => exact ⟨a, may_with _ b, c, may_with _ d⟩
      | _ + 2 => exact ⟨a, b, may_with _ c, may_with _ d⟩
theorem quo_in {q : Int} {n : Nat} (hn : n ≤ 9) (hq : mayN q = true) : In64 (quoF q n) := by
  unfold mayN at hq
  simp only [Bool.and_eq_true, decide_eq_true_eq] at hq
  unfold quoF In64
  split <;> omega
theorem conf_ok {rs ld : List Int} {z : ZnL} {xs : List (Nat × Nat)} {s : StL} (h9 : rs.length ≤ 9) (hz : mayZ z = true) (h : runF rs ld xs = some s) : (confOf z s).ok := by
  obtain ⟨a, b, c, d⟩ := run_may h9 xs s h
  have hz' := hz
  unfold mayZ at hz'
  simp only [Bool.and_eq_true] at hz'
  have a1 := may_lt a
  have b1 := may_lt b
  have c1 := may_lt c
  exact ⟨by show s.v < 65536; omega, by show s.w < 65536; omega, by show s.l < 65536; omega, quo_in (cntF_le _) hz'.1.1.2, quo_in (cntF_le _) hz'.1.2⟩
theorem mayR_len {rs : List Int} (h : mayR rs = true) : 1 ≤ rs.length ∧ rs.length ≤ 9 ∧ withinB rs 3 = true := by
  unfold mayR at h
  simp only [Bool.and_eq_true, decide_eq_true_eq] at h
  exact ⟨h.1.1, h.1.2, h.2⟩
theorem allot_ok (rs : List Int) (z : ZnL) (ld : List Int) : (allotF rs z ld).1.ok := by
  unfold allotF
  split
  · rename_i h
    rw [Bool.and_eq_true] at h
    split
    · exact zero_ok
    · rename_i s hs
      exact conf_ok (mayR_len h.1).2.1 h.2 hs
  · exact zero_ok
theorem allot_errs (rs : List Int) (z : ZnL) (ld : List Int) : (allotF rs z ld).2 = 0 ∨ (allotF rs z ld).2 = 1 ∨ (allotF rs z ld).2 = 8 := by
  unfold allotF
  split
  · split <;> simp
  · simp
theorem allot_arg {rs ld : List Int} {z : ZnL} (h : (mayR rs && mayZ z) = false) : allotF rs z ld = (zeroC, 1) := by
  unfold allotF; rw [h]; rfl
theorem allot_full {rs ld : List Int} {z : ZnL} (h1 : mayR rs = true) (h2 : mayZ z = true) (h : runF rs ld (picksF z) = none) : allotF rs z ld = (zeroC, 8) := by
  unfold allotF; rw [h1, h2, h]; rfl
theorem allot_fine {rs ld : List Int} {z : ZnL} {s : StL} (h1 : mayR rs = true) (h2 : mayZ z = true) (h : runF rs ld (picksF z) = some s) : allotF rs z ld = (confOf z s, 0) := by
  unfold allotF; rw [h1, h2, h]; rfl
theorem check_err {rs ld : List Int} {z : ZnL} {c : CfL} {e : Int} (h : allotF rs z ld = (c, e)) (he : e ≠ 0) : checkF rs z ld = (zeroC, e) := by
  unfold checkF; rw [h]; exact if_neg he
theorem check_quo {rs ld : List Int} {z : ZnL} {c : CfL} {e : Int} (h : allotF rs z ld = (c, e)) (he : e = 0) (hm : mayC c = false) : checkF rs z ld = (zeroC, 11) := by
  unfold checkF; rw [h]; dsimp only; rw [if_pos he, hm]; rfl
theorem check_zone {rs ld : List Int} {z : ZnL} {c : CfL} {e : Int} (h : allotF rs z ld = (c, e)) (he : e = 0) (hm : mayC c = true) (hs : (survF rs c z.s).1 = false) : checkF rs z ld = (zeroC, 12) := by
  unfold checkF; rw [h]; dsimp only; rw [if_pos he, hm, if_pos rfl, hs]; rfl
theorem check_fine {rs ld : List Int} {z : ZnL} {c : CfL} {e : Int} (h : allotF rs z ld = (c, e)) (he : e = 0) (hm : mayC c = true) (hs : (survF rs c z.s).1 = true) : checkF rs z ld = (c, 0) := by
  unfold checkF; rw [h]; dsimp only; rw [if_pos he, hm, if_pos rfl, hs, if_pos rfl]
end Go.Proofs.YtfcljdpjjabhjaaDoor.zn
