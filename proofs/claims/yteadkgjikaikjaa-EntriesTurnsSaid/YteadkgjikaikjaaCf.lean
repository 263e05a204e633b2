/- Configurations and joints as plain values: who votes, which may be, what elects and commits, which quorums meet, changes. It speaks of no program. -/
import Derived.Test.YteadkgjikaikjaaSeC
namespace Go.Proofs.Yteadkgjikaikjaa.cf
open Go.RowKit Go.Proofs.Yteadkgjikaikjaa.nums Go.Proofs.Yteadkgjikaikjaa.se
set_option linter.unusedVariables false

/-- An int. -/
def In64 (z : Int) : Prop := -9223372036854775808 ≤ z ∧ z ≤ 9223372036854775807
structure CfL where
  v : Nat
  w : Nat
  l : Nat
  e : Int
  k : Int
deriving DecidableEq
structure JtL where
  a : CfL
  b : CfL
  two : Bool
deriving DecidableEq
def zeroC : CfL := ⟨0, 0, 0, 0, 0⟩
def zeroJ : JtL := ⟨zeroC, zeroC, false⟩
def CfL.ok (c : CfL) : Prop := c.v < 65536 ∧ c.w < 65536 ∧ c.l < 65536 ∧ In64 c.e ∧ In64 c.k
def JtL.ok (j : JtL) : Prop := j.a.ok ∧ j.b.ok
theorem zero_ok : zeroC.ok := by refine ⟨?_, ?_, ?_, ?_, ?_⟩ <;> simp [zeroC, In64]
def votF (c : CfL) : Nat := c.v ||| c.w
def datF (c : CfL) : Nat := c.v ||| c.l
def memF (c : CfL) : Nat := c.v ||| c.w ||| c.l
theorem vot_lt {c : CfL} (h : c.ok) : votF c < 65536 := Nat.or_lt_two_pow (n := 16) h.1 h.2.1
theorem dat_lt {c : CfL} (h : c.ok) : datF c < 65536 := Nat.or_lt_two_pow (n := 16) h.1 h.2.2.1
theorem mem_lt {c : CfL} (h : c.ok) : memF c < 65536 := Nat.or_lt_two_pow (n := 16) (vot_lt h) h.2.2.1
/-- Set algebra on the nodes 1 to 9. -/
def joinF (a b : Nat) : Nat := (a ||| b) &&& 1022
def meetF (a b : Nat) : Nat := (a &&& b) &&& 1022
theorem join_lt {a b : Nat} (ha : a < 65536) (hb : b < 65536) : joinF a b < 65536 := Nat.lt_of_le_of_lt Nat.and_le_left (Nat.or_lt_two_pow (n := 16) ha hb)
theorem meet_lt {a b : Nat} (ha : a < 65536) : meetF a b < 65536 := Nat.lt_of_le_of_lt Nat.and_le_left (Nat.lt_of_le_of_lt Nat.and_le_left ha)
theorem may_iff {s : Nat} : mayF s = true ↔ s &&& 1022 = s := by rw [may_of]; exact decide_eq_true_iff
theorem may_or (a b : Nat) : mayF (a ||| b) = (mayF a && mayF b) := by
  rw [Bool.eq_iff_iff, Bool.and_eq_true, may_iff, may_iff, may_iff]
  constructor
  · intro h
    constructor <;>
    · apply Nat.eq_of_testBit_eq
      intro i
      have := congrArg (fun x => x.testBit i) h
      simp only [Nat.testBit_and, Nat.testBit_or] at this ⊢
      revert this
      cases a.testBit i <;> cases b.testBit i <;> simp
  · rintro ⟨h1, h2⟩
    rw [Nat.and_or_distrib_right, h1, h2]
theorem cnt_and (s : Nat) : cntF (s &&& 1022) = cntF s := by rw [← cntF_list, ← cntF_list, list_and]
theorem cnt_meet (a b : Nat) : cntF (meetF a b) = cntF (a &&& b) := cnt_and _
theorem cnt_joinF (a b : Nat) : cntF (joinF a b) = cntF (a ||| b) := cnt_and _
theorem cnt_eq_zero {s : Nat} (h : mayF s = true) : cntF s = 0 ↔ s = 0 := by
  constructor
  · intro h0
    rw [may_sum, decide_eq_true_iff] at h
    have hl : listF s = [] := List.eq_nil_of_length_eq_zero (by rw [cntF_list]; exact h0)
    rw [hl] at h
    simpa [sumL] using h.symm
  · rintro rfl; exact cnt_zero 9
theorem may_zero : mayF 0 = true := by decide
theorem join_may {a b : Nat} (ha : mayF a = true) (hb : mayF b = true) : joinF a b = a ||| b := by
  have : mayF (a ||| b) = true := by rw [may_or, ha, hb]; rfl
  exact may_iff.1 this
theorem may_sub {a b : Nat} (ha : mayF a = true) : mayF (a &&& b) = true := by
  rw [may_iff] at ha ⊢
  rw [Nat.and_assoc, Nat.and_comm b 1022, ← Nat.and_assoc, ha]
theorem meet_may {a : Nat} (b : Nat) (ha : mayF a = true) : meetF a b = a &&& b := may_iff.1 (may_sub ha)
/-- How many a quorum may want: of a's n voting nodes. -/
def mayQ (q n : Int) : Bool := decide (1 ≤ q) && decide (q ≤ n)
def quoB (c : CfL) : Bool := mayQ c.e (cntF (votF c)) && mayQ c.k (cntF (votF c)) && decide ((cntF (votF c) : Int) < c.e + c.k) && decide ((cntF (votF c) : Int) < 2 * c.e)
def apartB (c : CfL) : Bool := decide (c.v &&& c.w = 0) && decide (votF c &&& c.l = 0)
def mayC (c : CfL) : Bool := mayF (memF c) && apartB c && decide (c.v ≠ 0) && quoB c
def mayJ (j : JtL) : Bool := mayC j.a && (if j.two then mayC j.b else decide (j.b = zeroC))
theorem may_parts {c : CfL} (h : mayC c = true) : mayF c.v = true ∧ mayF c.w = true ∧ mayF c.l = true ∧ c.v ≠ 0 ∧ 1 ≤ c.e ∧ c.e ≤ cntF (votF c) ∧ 1 ≤ c.k ∧ c.k ≤ cntF (votF c) ∧ (cntF (votF c) : Int) < c.e + c.k ∧ (cntF (votF c) : Int) < 2 * c.e := by
  simp only [mayC, quoB, mayQ, apartB, memF, may_or, Bool.and_eq_true, decide_eq_true_eq] at h
  obtain ⟨⟨⟨⟨⟨h1, h2⟩, h3⟩, _⟩, h4⟩, ⟨⟨⟨h5, h6⟩, h7, h8⟩, h9⟩, h10⟩ := h
  exact ⟨h1, h2, h3, h4, h5, h6, h7, h8, h9, h10⟩
theorem may_votes {c : CfL} (h : mayC c = true) : mayF (votF c) = true := by
  obtain ⟨h1, h2, _⟩ := may_parts h
  rw [votF, may_or, h1, h2]; rfl
/-- The document's way to say that no node is in two of the sets: by how many there are. -/
theorem apart_cnt {c : CfL} (h1 : mayF c.v = true) (h2 : mayF c.w = true) (h3 : mayF c.l = true) : apartB c = decide (cntF (joinF (votF c) c.l) = cntF c.v + cntF c.w + cntF c.l) := by
  have j1 := cnt_join c.v c.w 9
  have j2 := cnt_join (c.v ||| c.w) c.l 9
  have z1 := cnt_eq_zero (may_sub (b := c.w) h1)
  have z2 := cnt_eq_zero (s := (c.v ||| c.w) &&& c.l) (by rw [Nat.and_comm]; exact may_sub h3)
  rw [cnt_joinF]
  unfold apartB votF
  unfold cntF at *
  rw [Bool.eq_iff_iff, Bool.and_eq_true, decide_eq_true_eq, decide_eq_true_eq, decide_eq_true_eq, ← z1, ← z2]
  omega
/-- What elects, and what commits, in one configuration. -/
def elC (c : CfL) (got : Nat) : Bool := decide (c.e ≤ cntF (got &&& votF c))
def coC (c : CfL) (got : Nat) : Bool := decide (c.k ≤ cntF (got &&& votF c)) && decide (got &&& c.v ≠ 0)
def bothJ (j : JtL) (P : CfL → Bool) : Bool := P j.a && (!j.two || P j.b)
def elJ (j : JtL) (got : Nat) : Bool := bothJ j (elC · got)
def coJ (j : JtL) (got : Nat) : Bool := bothJ j (coC · got)
def unF (j : JtL) (f : CfL → Nat) : Nat := if j.two then f j.a ||| f j.b else f j.a
def ledF (j : JtL) (n : Int) : Bool := hasF (unF j (·.v)) n
theorem mayJ_a {j : JtL} (h : mayJ j = true) : mayC j.a = true := by
  unfold mayJ at h; rw [Bool.and_eq_true] at h; exact h.1
theorem mayJ_b {j : JtL} (h : mayJ j = true) (ht : j.two = true) : mayC j.b = true := by
  unfold mayJ at h; rw [Bool.and_eq_true, ht, if_pos rfl] at h; exact h.2
theorem un_lt {j : JtL} {f : CfL → Nat} (h1 : f j.a < 65536) (h2 : f j.b < 65536) : unF j f < 65536 := by
  unfold unF; split
  · exact Nat.or_lt_two_pow (n := 16) h1 h2
  · exact h1
theorem has_or (a b : Nat) (n : Int) : hasF (a ||| b) n = (hasF a n || hasF b n) := by
  simp only [hasF, Nat.testBit_or]
  cases nodeB n <;> simp
/-- Whatever elects in a configuration meets whatever commits, or elects, in it. -/
theorem el_meets {c : CfL} {a b : Nat} (h : mayC c = true) (h1 : elC c a = true) (h2 : coC c b = true ∨ elC c b = true) : meetF a b ≠ 0 := by
  obtain ⟨_, _, _, _, _, _, _, _, h9, h10⟩ := may_parts h
  have hq : c.k ≤ cntF (b &&& votF c) ∨ c.e ≤ cntF (b &&& votF c) := by
    rcases h2 with h2 | h2
    · simp only [coC, Bool.and_eq_true, decide_eq_true_eq] at h2; exact .inl h2.1
    · exact .inr (of_decide_eq_true h2)
  have h1 : c.e ≤ cntF (a &&& votF c) := of_decide_eq_true h1
  have hj := cnt_join (a &&& votF c) (b &&& votF c) 9
  have hm : cntTo ((a &&& votF c) ||| (b &&& votF c)) 9 ≤ cntTo (votF c) 9 := by
    refine cnt_mono ?_ 9
    rw [← Nat.and_or_distrib_right, Nat.and_assoc, Nat.and_self]
  have hm2 : cntTo ((a &&& votF c) &&& (b &&& votF c)) 9 ≤ cntTo (a &&& b) 9 := by
    refine cnt_mono ?_ 9
    apply Nat.eq_of_testBit_eq
    intro i
    simp only [Nat.testBit_and]
    cases a.testBit i <;> cases b.testBit i <;> simp
  intro h0
  have hz : cntF (a &&& b) = 0 := by rw [← cnt_meet, h0]; exact cnt_zero 9
  unfold cntF at *
  omega
/-- Along a change. -/
theorem joint_meets {j i : JtL} {a b : Nat} (h : mayJ j = true) (hs : i.a = j.a ∨ (j.two = true ∧ i.a = j.b) ∨ (i.two = true ∧ i.b = j.a)) (h1 : elJ j a = true) (h2 : coJ i b = true ∨ elJ i b = true) : meetF a b ≠ 0 := by
  have ha := mayJ_a h
  have hb := mayJ_b h
  simp only [elJ, coJ, bothJ, Bool.and_eq_true, Bool.or_eq_true, Bool.not_eq_true'] at h1 h2
  rcases hs with hs | ⟨ht, hs⟩ | ⟨ht, hs⟩
  · rw [hs] at h2
    exact el_meets ha h1.1 (h2.elim (fun h => .inl h.1) (fun h => .inr h.1))
  · rw [hs] at h2
    rw [ht] at h1
    exact el_meets (hb ht) (h1.2.resolve_left (by simp)) (h2.elim (fun h => .inl h.1) (fun h => .inr h.1))
  · rw [hs, ht] at h2
    exact el_meets ha h1.1 (h2.elim (fun h => .inl (h.2.resolve_left (by simp))) (fun h => .inr (h.2.resolve_left (by simp))))
/-- More nodes elect and commit no less. -/
theorem el_more {c : CfL} {a b : Nat} (h : a &&& b = a) (h1 : elC c a = true) : elC c b = true := by
  unfold elC cntF at *
  rw [decide_eq_true_eq] at *
  have : cntTo (a &&& votF c) 9 ≤ cntTo (b &&& votF c) 9 := cnt_mono (by
    apply Nat.eq_of_testBit_eq
    intro i
    have := congrArg (fun x => x.testBit i) h
    simp only [Nat.testBit_and] at this ⊢
    revert this
    cases a.testBit i <;> cases b.testBit i <;> simp) 9
  omega
theorem co_more {c : CfL} {a b : Nat} (h : a &&& b = a) (h1 : coC c a = true) : coC c b = true := by
  unfold coC at *
  rw [Bool.and_eq_true] at *
  refine ⟨el_more (c := { c with e := c.k }) h h1.1, ?_⟩
  have h2 := of_decide_eq_true h1.2
  refine decide_eq_true fun h0 => h2 ?_
  rw [← h, Nat.and_assoc, h0, Nat.and_zero]
theorem elJ_more {j : JtL} {a b : Nat} (h : a &&& b = a) (h1 : elJ j a = true) : elJ j b = true := by
  simp only [elJ, bothJ, Bool.and_eq_true, Bool.or_eq_true] at *
  exact ⟨el_more h h1.1, h1.2.imp id (el_more h)⟩
theorem coJ_more {j : JtL} {a b : Nat} (h : a &&& b = a) (h1 : coJ j a = true) : coJ j b = true := by
  simp only [coJ, bothJ, Bool.and_eq_true, Bool.or_eq_true] at *
  exact ⟨co_more h h1.1, h1.2.imp id (co_more h)⟩
theorem el_all {c : CfL} {a : Nat} (hm : mayC c = true) (h : a &&& votF c = votF c) : elC c a = true := by
  obtain ⟨_, _, _, _, _, h6, _⟩ := may_parts hm
  unfold elC; rw [h]; exact decide_eq_true h6
theorem co_all {c : CfL} {a : Nat} (hm : mayC c = true) (h : a &&& votF c = votF c) : coC c a = true := by
  obtain ⟨_, _, _, h4, _, _, _, h8, _⟩ := may_parts hm
  unfold coC; rw [h, Bool.and_eq_true]
  refine ⟨decide_eq_true h8, decide_eq_true fun h0 => h4 ?_⟩
  apply Nat.eq_of_testBit_eq
  intro i
  have e1 := congrArg (fun x => x.testBit i) h
  have e2 := congrArg (fun x => x.testBit i) h0
  simp only [votF, Nat.testBit_and, Nat.testBit_or, Nat.zero_testBit] at e1 e2 ⊢
  revert e1 e2
  cases a.testBit i <;> cases c.v.testBit i <;> simp
theorem or_and_self (x y : Nat) : (x ||| y) &&& x = x := by
  apply Nat.eq_of_testBit_eq
  intro i
  simp only [Nat.testBit_and, Nat.testBit_or]
  cases x.testBit i <;> simp
theorem or_and_self' (x y : Nat) : (x ||| y) &&& y = y := by rw [Nat.or_comm]; exact or_and_self y x
theorem un_covers (j : JtL) (f : CfL → Nat) : unF j f &&& f j.a = f j.a ∧ (j.two = true → unF j f &&& f j.b = f j.b) := by
  unfold unF
  cases j.two
  · exact ⟨by simp, fun h => by cases h⟩
  · exact ⟨by simpa using or_and_self _ _, fun _ => by simpa using or_and_self' _ _⟩
theorem elJ_all {j : JtL} (h : mayJ j = true) : elJ j (unF j votF) = true := by
  have hc := un_covers j votF
  simp only [elJ, bothJ, Bool.and_eq_true, Bool.or_eq_true, Bool.not_eq_true']
  refine ⟨el_all (mayJ_a h) hc.1, ?_⟩
  cases ht : j.two
  · exact .inl rfl
  · exact .inr (el_all (mayJ_b h ht) (hc.2 ht))
theorem coJ_all {j : JtL} (h : mayJ j = true) : coJ j (unF j votF) = true := by
  have hc := un_covers j votF
  simp only [coJ, bothJ, Bool.and_eq_true, Bool.or_eq_true, Bool.not_eq_true']
  refine ⟨co_all (mayJ_a h) hc.1, ?_⟩
  cases ht : j.two
  · exact .inl rfl
  · exact .inr (co_all (mayJ_b h ht) (hc.2 ht))
theorem elJ_none {j : JtL} (h : mayJ j = true) : elJ j 0 = false := by
  obtain ⟨_, _, _, _, h5, _⟩ := may_parts (mayJ_a h)
  have : elC j.a 0 = false := by
    unfold elC
    rw [Nat.zero_and]
    have : cntF 0 = 0 := cnt_zero 9
    rw [this]
    exact decide_eq_false (by omega)
  simp [elJ, bothJ, this]
theorem coJ_none (j : JtL) : coJ j 0 = false := by
  have : coC j.a 0 = false := by simp [coC]
  simp [coJ, bothJ, this]
theorem mem_some {j : JtL} (h : mayJ j = true) : 1 ≤ cntF (unF j memF) := by
  obtain ⟨h1, _, _, h4, _⟩ := may_parts (mayJ_a h)
  have hp : cntF j.a.v ≠ 0 := fun h0 => h4 ((cnt_eq_zero h1).1 h0)
  have hm : cntTo j.a.v 9 ≤ cntTo (unF j memF) 9 := by
    refine cnt_mono ?_ 9
    have hc := (un_covers j memF).1
    have hv : memF j.a &&& j.a.v = j.a.v := by
      unfold memF
      apply Nat.eq_of_testBit_eq
      intro i
      simp only [Nat.testBit_and, Nat.testBit_or]
      cases j.a.v.testBit i <;> simp
    rw [Nat.and_comm]
    apply Nat.eq_of_testBit_eq
    intro i
    have e1 := congrArg (fun x => x.testBit i) hc
    have e2 := congrArg (fun x => x.testBit i) hv
    simp only [Nat.testBit_and] at e1 e2 ⊢
    revert e1 e2
    cases (unF j memF).testBit i <;> cases (memF j.a).testBit i <;> cases j.a.v.testBit i <;> simp
  unfold cntF at *
  omega
/-- Changes. -/
def stepB (j : JtL) (to : CfL) : Bool := decide (to.w ≠ j.a.w) || decide (to.v ^^^ (to.v &&& datF j.a) ≠ 0)
def changeE (j : JtL) (to : CfL) : Int := if j.two then 10 else if !mayC to then 11 else if stepB j to then 10 else 0
def changeJ (j : JtL) (to : CfL) : JtL := if changeE j to = 0 then ⟨j.a, to, true⟩ else zeroJ
def finalJ (j : JtL) : JtL := if j.two then ⟨j.b, zeroC, false⟩ else j
theorem final_ok {j : JtL} (h : j.ok) : (finalJ j).ok := by
  unfold finalJ; split
  · exact ⟨h.2, zero_ok⟩
  · exact h
theorem change_ok {j : JtL} {to : CfL} (h : j.ok) (ht : to.ok) : (changeJ j to).ok := by
  unfold changeJ; split
  · exact ⟨h.1, ht⟩
  · exact ⟨zero_ok, zero_ok⟩
theorem change_fine {j : JtL} {to : CfL} (h : changeE j to = 0) : j.two = false ∧ mayC to = true ∧ to.w = j.a.w ∧ changeJ j to = ⟨j.a, to, true⟩ := by
  refine ⟨?_, ?_, ?_, by unfold changeJ; rw [if_pos h]⟩ <;> unfold changeE at h
  · cases ht : j.two with
    | false => rfl
    | true => rw [ht] at h; simp at h
  · split at h
    · cases h
    · split at h
      · cases h
      · rename_i _ h2; simpa using h2
  · split at h
    · cases h
    · split at h
      · cases h
      · split at h
        · cases h
        · rename_i _ _ h3
          simp only [stepB, Bool.or_eq_true, decide_eq_true_eq, not_or, Decidable.not_not] at h3
          exact h3.1
theorem change_mayJ {j : JtL} {to : CfL} (hj : mayC j.a = true) (h : changeE j to = 0) : mayJ (changeJ j to) = true ∧ mayJ (finalJ (changeJ j to)) = true := by
  obtain ⟨_, h2, _, h4⟩ := change_fine h
  rw [h4]
  unfold mayJ finalJ
  simp [hj, h2]
theorem change_two {j : JtL} (to : CfL) (h : j.two = true) : changeE j to = 10 ∧ changeJ j to = zeroJ := by
  have e : changeE j to = 10 := by unfold changeE; rw [h]; rfl
  exact ⟨e, by unfold changeJ; rw [e]; rfl⟩
theorem change_bad {j : JtL} {to : CfL} (h : j.two = false) (hm : mayC to = false) : changeE j to = 11 ∧ changeJ j to = zeroJ := by
  have e : changeE j to = 11 := by unfold changeE; rw [h, hm]; rfl
  exact ⟨e, by unfold changeJ; rw [e]; rfl⟩
theorem change_step {j : JtL} {to : CfL} (h : j.two = false) (hm : mayC to = true) (hs : stepB j to = true) : changeE j to = 10 ∧ changeJ j to = zeroJ := by
  have e : changeE j to = 10 := by unfold changeE; rw [h, hm, hs]; rfl
  exact ⟨e, by unfold changeJ; rw [e]; rfl⟩
theorem change_goes {j : JtL} {to : CfL} (h : j.two = false) (hm : mayC to = true) (hs : stepB j to = false) : changeE j to = 0 ∧ changeJ j to = ⟨j.a, to, true⟩ := by
  have e : changeE j to = 0 := by unfold changeE; rw [h, hm, hs]; rfl
  exact ⟨e, by unfold changeJ; rw [e]; rfl⟩
theorem xor_zero (x y : Nat) : x ^^^ y = 0 ↔ x = y := by
  constructor
  · intro h
    apply Nat.eq_of_testBit_eq
    intro i
    have := congrArg (fun x => x.testBit i) h
    simp only [Nat.testBit_xor, Nat.zero_testBit] at this
    revert this
    cases x.testBit i <;> cases y.testBit i <;> simp
  · rintro rfl; exact Nat.xor_self x
theorem step_ref {j : JtL} {to : CfL} (hj : mayC j.a = true) (ht : mayC to = true) : stepB j to = (decide (to.w ≠ j.a.w) || decide (meetF to.v (joinF j.a.v j.a.l) ≠ to.v)) := by
  obtain ⟨a1, _, a3, _⟩ := may_parts hj
  obtain ⟨t1, _⟩ := may_parts ht
  rw [join_may a1 a3, meet_may _ t1]
  have e : decide (to.v ^^^ (to.v &&& datF j.a) ≠ 0) = decide (to.v &&& (j.a.v ||| j.a.l) ≠ to.v) := by
    rw [decide_eq_decide]
    exact not_congr ((xor_zero _ _).trans ⟨fun h => h.symm, fun h => h.symm⟩)
  unfold stepB
  rw [e]
/-- Which quorums meet: what two of them want of the nodes that both configurations share has no room there. -/
def needF (q : Int) (s sh : Nat) : Int := max q (cntF (s ^^^ (s &&& sh)) : Int) - cntF (s ^^^ (s &&& sh))
def meetC (a b : CfL) : Bool := decide ((cntF (votF a &&& votF b) : Int) - needF b.k (votF b) (votF a &&& votF b) < needF a.e (votF a) (votF a &&& votF b))
theorem and_and_self (x y : Nat) : x &&& (x &&& y) = x &&& y := by rw [← Nat.and_assoc, Nat.and_self]
theorem need_nat (q : Nat) (s sh : Nat) : needF q s sh = ((q - cntF (s ^^^ (s &&& sh)) : Nat) : Int) := by
  unfold needF; omega
/-- It is so just where all quorums, one by one, have a node in common. -/
theorem meet_iff {a b : CfL} (h1 : 1 ≤ a.e) (h2 : a.e ≤ cntF (votF a)) (h3 : 1 ≤ b.k) (h4 : b.k ≤ cntF (votF b)) :
    meetC a b = true ↔ ∀ x y, x &&& votF a = x → y &&& votF b = y → (cntF x : Int) = a.e → (cntF y : Int) = b.k → cntF (x &&& y) ≠ 0 := by
  obtain ⟨e, he⟩ : ∃ e : Nat, a.e = e := ⟨a.e.toNat, by omega⟩
  obtain ⟨k, hk⟩ : ∃ k : Nat, b.k = k := ⟨b.k.toNat, by omega⟩
  have H := apart_iff (votF a) (votF b) e k
  unfold meetC
  rw [he, hk, decide_eq_true_eq, need_nat, need_nat]
  have e1 : votF a &&& (votF a &&& votF b) = votF a &&& votF b := and_and_self _ _
  have e2 : votF b &&& (votF a &&& votF b) = votF b &&& votF a := by rw [Nat.and_comm (votF a), and_and_self]
  rw [e1, e2]
  rw [he] at h2
  rw [hk] at h4
  constructor
  · intro hlt x y hx hy hcx hcy h0
    have := H.1 ⟨x, y, hx, hy, by omega, by omega, h0⟩
    omega
  · intro hall
    refine Decidable.byContradiction fun hn => ?_
    obtain ⟨x, y, hx, hy, hcx, hcy, h0⟩ := H.2 ⟨by omega, by omega, by omega⟩
    exact hall x y hx hy (by omega) (by omega) h0
/-- The document's way: all quorums of a configuration, one by one. -/
def subsF (s j : Nat) : List Nat := (List.range j).filter fun x => mayF x && decide (meetF x s = x)
def quosF (s : Nat) (q : Int) : List Nat := (subsF s 1024).filter fun x => decide ((cntF x : Int) = q)
theorem subs_succ (s j : Nat) : subsF s (j + 1) = if (mayF j && decide (meetF j s = j)) = true then subsF s j ++ [j] else subsF s j := by
  unfold subsF
  rw [List.range_succ, List.filter_append]
  split <;> rename_i h
  · rw [List.filter_cons_of_pos (by simpa using h)]; rfl
  · rw [List.filter_cons_of_neg (by simpa using h)]; simp
theorem subs_len (s j : Nat) : (subsF s j).length ≤ j := by
  have := List.length_filter_le (fun x => mayF x && decide (meetF x s = x)) (List.range j)
  rw [List.length_range] at this
  exact this
theorem subs_lt {s j x : Nat} (h : x ∈ subsF s j) : x < j := List.mem_range.1 (List.mem_filter.1 h).1
theorem subs_iff {s x : Nat} (hs : mayF s = true) : x ∈ subsF s 1024 ↔ x &&& s = x := by
  unfold subsF
  rw [List.mem_filter, List.mem_range, Bool.and_eq_true, decide_eq_true_eq]
  constructor
  · rintro ⟨_, h1, h2⟩
    rw [meet_may s h1] at h2
    exact h2
  · intro h
    have hm : mayF x = true := by rw [← h, Nat.and_comm]; exact may_sub hs
    refine ⟨?_, hm, by rw [meet_may s hm]; exact h⟩
    have h10 : x &&& 1022 = x := may_iff.1 hm
    rw [← h10]
    exact Nat.lt_of_le_of_lt Nat.and_le_right (by omega)
theorem quos_iff {s x : Nat} {q : Int} (hs : mayF s = true) : x ∈ quosF s q ↔ x &&& s = x ∧ (cntF x : Int) = q := by
  unfold quosF
  rw [List.mem_filter, subs_iff hs, decide_eq_true_eq]
theorem quos_lt {s x : Nat} {q : Int} (h : x ∈ quosF s q) : x < 1024 := subs_lt (List.mem_filter.1 h).1
def meetR (xs ys : List Nat) : Bool := xs.all fun x => ys.all fun y => decide (meetF x y ≠ 0)
theorem meet_same {a b : CfL} (ha : mayF a.v = true) (ha' : mayF a.w = true) (hb : mayF b.v = true) (hb' : mayF b.w = true) (h1 : 1 ≤ a.e) (h2 : a.e ≤ cntF (votF a)) (h3 : 1 ≤ b.k) (h4 : b.k ≤ cntF (votF b)) :
    meetR (quosF (joinF a.v a.w) a.e) (quosF (joinF b.v b.w) b.k) = meetC a b := by
  have hva : mayF (votF a) = true := by rw [votF, may_or, ha, ha']; rfl
  have hvb : mayF (votF b) = true := by rw [votF, may_or, hb, hb']; rfl
  rw [join_may ha ha', join_may hb hb', Bool.eq_iff_iff, meet_iff h1 h2 h3 h4]
  unfold meetR
  simp only [List.all_eq_true, decide_eq_true_eq]
  constructor
  · intro h x y hx hy cx cy h0
    refine h x ((quos_iff hva).2 ⟨hx, cx⟩) y ((quos_iff hvb).2 ⟨hy, cy⟩) ?_
    have hm : mayF (meetF x y) = true := by unfold meetF; exact may_and _
    exact (cnt_eq_zero hm).1 (by rw [cnt_meet]; exact h0)
  · intro h x hx y hy h0
    obtain ⟨x1, x2⟩ := (quos_iff hva).1 hx
    obtain ⟨y1, y2⟩ := (quos_iff hvb).1 hy
    refine h x y x1 y1 x2 y2 ?_
    rw [← cnt_meet, h0]; exact cnt_zero 9
end Go.Proofs.Yteadkgjikaikjaa.cf
