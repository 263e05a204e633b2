/- What the document's disk (antipoderef4) comes to: New, may, step, Append, Sync, Clear, Read, Power, Copy. Conditions: the disk is a good one (DS.Good). -/
import Derived.Test.YtafdgibkhefplaaProg
import Derived.Test.YtafdgibkhefplaaJoin1
import Derived.Test.YtafdgibkhefplaaJoin0
import Derived.Outline
import Derived.Deep.RegionHeld3
import Derived.Laws.Concat
import Derived.StillTailTactics
namespace Go.Proofs.Ytafdgibkhefplaa.ref4
open Go.RowKit Go.Proofs.Ytafdgibkhefplaa.kit Go.Proofs.Ytafdgibkhefplaa.nums Go.Proofs.Ytafdgibkhefplaa.ds
set_option linter.unusedVariables false

def refV (S : DS) : List Value := [.string (strOfNums S.a), .string (strOfNums S.b), .int .i64 S.la, .int .i64 S.lb, .bool S.off, .int .i64 S.arms, .int .i64 S.powers, .int .i64 S.stepped]
/-- The document's disk S lies in block g. -/
def IsRef (w : World) (g : Nat) (S : DS) : Prop := Blk 76 w g (refV S)
theorem IsRef.lt {w : World} {g : Nat} {S : DS} (h : IsRef w g S) : g < w.heap.size := Blk.lt h

theorem IsRef.below {w w' : World} {g : Nat} {S : DS} (h : IsRef w g S) (hb : Below w.heap.size w w') : IsRef w' g S := Blk.below h hb h.lt
theorem IsRef.keep {w w' : World} {g : Nat} {S : DS} (h : IsRef w g S) (hk : w'.heap[g]? = w.heap[g]?) : IsRef w' g S := by unfold IsRef Blk at *; rw [hk]; exact h
theorem IsRef.set {w : World} {g : Nat} {S S' : DS} (h : IsRef w g S) (i : Nat) (u : Value) (e : (refV S).set i u = refV S') : IsRef (w.setCell ⟨g, i, none⟩ u) g S' := by
  unfold IsRef; rw [← e]; exact Blk.set_ h i u
theorem grown_set (w : World) (g i : Nat) (u : Value) : w.grownBy (w.setCell ⟨g, i, none⟩ u) (some g) := ⟨rfl, rfl, rfl, by simp [World.setCell], fun k hk hne => Below.heap_setCell _ _ _ _ (by simpa using hne)⟩
theorem grown_trans {w w' w'' : World} {k : Option Nat} (h : w.grownBy w' k) (h' : w'.grownBy w'' k) : w.grownBy w'' k :=
  ⟨h'.os.trans h.os, h'.tape.trans h.tape, h'.output.trans h.output, Nat.le_trans h.size h'.size, fun j hj hne => (h'.block j (Nat.lt_of_lt_of_le hj h.size) hne).trans (h.block j hj hne)⟩
section
variable {w : World} {g : Nat} {S : DS}
theorem IsRef.c0 (h : IsRef w g S) : w.cell? ⟨g, 0, none⟩ = some (.string (strOfNums S.a)) := by rw [Blk.cell h]; rfl
theorem IsRef.c1 (h : IsRef w g S) : w.cell? ⟨g, 1, none⟩ = some (.string (strOfNums S.b)) := by rw [Blk.cell h]; rfl
theorem IsRef.c2 (h : IsRef w g S) : w.cell? ⟨g, 2, none⟩ = some (.int .i64 S.la) := by rw [Blk.cell h]; rfl
theorem IsRef.c3 (h : IsRef w g S) : w.cell? ⟨g, 3, none⟩ = some (.int .i64 S.lb) := by rw [Blk.cell h]; rfl
theorem IsRef.c4 (h : IsRef w g S) : w.cell? ⟨g, 4, none⟩ = some (.bool S.off) := by rw [Blk.cell h]; rfl
theorem IsRef.c5 (h : IsRef w g S) : w.cell? ⟨g, 5, none⟩ = some (.int .i64 S.arms) := by rw [Blk.cell h]; rfl
theorem IsRef.c6 (h : IsRef w g S) : w.cell? ⟨g, 6, none⟩ = some (.int .i64 S.powers) := by rw [Blk.cell h]; rfl
theorem IsRef.c7 (h : IsRef w g S) : w.cell? ⟨g, 7, none⟩ = some (.int .i64 S.stepped) := by rw [Blk.cell h]; rfl
end
theorem new_any (w : World) : Calls Try.prog 12 #[] w fun e w' => e = .returned (.pointer (some ⟨w.heap.size, 0, none⟩)) ∧ IsRef w' w.heap.size DS.fresh ∧ Below w.heap.size w w' := by
  go_enter Try.func12, Try.ntmps12
  go_wp2_with fail
  go_ret
  exact ⟨rfl, heap_alloc_new w _, (Below.refl _ _).alloc (Nat.le_refl _) _⟩
theorem may_any (g : Nat) (S : DS) (f : Int) (w : World) (h : IsRef w g S) :
    Calls Try.prog 64 #[.pointer (some ⟨g, 0, none⟩), .int .i64 f] w fun e w' => e = .returned (.int .i64 (S.may f)) ∧ w = w' := by
  have h4 := h.c4
  rcases hoff : S.off with _ | _
  · rw [hoff] at h4
    by_cases hf : f = 0 ∨ f = 1
    · have HM := Lib.hid (show S.may f = 0 by unfold DS.may; rw [hoff, if_neg (by simp), if_pos hf])
      have hc : (f != 0 && f != 1) = false := by rcases hf with rfl | rfl <;> rfl
      rcases hf with rfl | rfl
      · go_enter Try.func64, Try.ntmps64
        go_wp2_with fail
        go_ret
        exact ⟨by rw [HM.out]; rfl, rfl⟩
      · go_enter Try.func64, Try.ntmps64
        go_wp2_with fail
        go_ret
        exact ⟨by rw [HM.out]; rfl, rfl⟩
    · have HM := Lib.hid (show S.may f = 1 by unfold DS.may; rw [hoff, if_neg (by simp), if_neg hf])
      have h0 : ¬ f = 0 := fun e => hf (.inl e)
      have h1 : ¬ f = 1 := fun e => hf (.inr e)
      have h0' : (f != 0) = true := by simpa using h0
      have h1' : (f != 1) = true := by simpa using h1
      clear hf
      go_enter Try.func64, Try.ntmps64
      go_wp2_with fail
      go_ret
      exact ⟨by rw [HM.out]; rfl, rfl⟩
  · rw [hoff] at h4
    have HM := Lib.hid (show S.may f = 6 by unfold DS.may; rw [hoff, if_pos rfl])
    go_enter Try.func64, Try.ntmps64
    go_wp2_with fail
    go_ret
    exact ⟨by rw [HM.out]; rfl, rfl⟩
/-- What a call ends in that turns the document's disk alone. -/
def RetR (w : World) (g : Nat) (S' : DS) (v : Value) (e : Ending) (w' : World) : Prop := e = .returned v ∧ IsRef w' g S' ∧ w.grownBy w' (some g)
theorem step_any (g : Nat) (S : DS) (w : World) (h : IsRef w g S) (hS : S.Good) (hs : S.stepped ≤ 1000000) :
    Calls Try.prog 65 #[.pointer (some ⟨g, 0, none⟩)] w (RetR w g S.step (.bool (decide (¬ S.arms = 0)))) := by
  have h4 := h.c4
  have h5 := h.c5
  have h7 := h.c7
  have hf := fun i => Blk.frozen h i
  have ha0 := hS.a0
  have ha1 := hS.a1
  have HI := Lib.hid h
  rcases Int.lt_trichotomy S.arms 0 with ha | ha | ha
  · have HT := Lib.hid (show S.step = { S with stepped := S.stepped + 1 } by unfold DS.step; rw [if_neg (by omega), if_neg (by omega)])
    have hne : (S.arms == 0) = false := by simp; omega
    have hd : decide (¬ S.arms = 0) = true := by simp; omega
    rw [hd]
    obtain ⟨a, b, la, lb, off, arms, powers, stepped⟩ := S
    dsimp only at *
    go_enter Try.func65, Try.ntmps65
    go_wp2_with fail
    go_ret
    refine ⟨rfl, ?_, grown_set _ _ _ _⟩
    rw [HT.out]
    exact HI.out.set 7 _ (by simp [refV])
  · have HT := Lib.hid (show S.step = { S with off := true } by unfold DS.step; rw [if_pos ha])
    have hd : decide (¬ S.arms = 0) = false := by simp; omega
    rw [hd]
    obtain ⟨a, b, la, lb, off, arms, powers, stepped⟩ := S
    dsimp only at *
    subst ha
    go_enter Try.func65, Try.ntmps65
    go_wp2_with fail
    go_ret
    refine ⟨rfl, ?_, grown_set _ _ _ _⟩
    rw [HT.out]
    exact HI.out.set 4 _ (by simp [refV])
  · have HT := Lib.hid (show S.step = { S with arms := S.arms - 1, stepped := S.stepped + 1 } by unfold DS.step; rw [if_neg (by omega), if_pos ha])
    have hne : (S.arms == 0) = false := by simp; omega
    have hd : decide (¬ S.arms = 0) = true := by simp; omega
    rw [hd]
    obtain ⟨a, b, la, lb, off, arms, powers, stepped⟩ := S
    dsimp only at *
    go_enter Try.func65, Try.ntmps65
    go_wp2_with fail
    go_ret
    refine ⟨rfl, ?_, grown_trans (grown_set _ _ _ _) (grown_set _ _ _ _)⟩
    rw [HT.out]
    exact (HI.out.set (S' := ⟨a, b, la, lb, off, arms - 1, powers, stepped⟩) 5 _ (by simp [refV])).set 7 _ (by simp [refV])
theorem str_app (l m : List Int) : strOfNums l ++ strOfNums m = strOfNums (l ++ m) := by
  apply ByteArray.ext
  simp [strOfNums]
theorem good_step {S : DS} (h : S.Good) (hs : S.stepped ≤ 1000000) : S.step.Good := by
  have h1 := h.a0
  have h2 := h.a1
  unfold DS.step
  split
  · exact ⟨h.ya, h.yb, h.la, h.lb, h.na, h.nb, h.a0, h.a1, h.p1, h.s1⟩
  · refine ⟨h.ya, h.yb, h.la, h.lb, h.na, h.nb, ?_, ?_, h.p1, ?_⟩
    · show -1 ≤ (if 0 < S.arms then S.arms - 1 else S.arms); split <;> omega
    · show (if 0 < S.arms then S.arms - 1 else S.arms) ≤ _; split <;> omega
    · show S.stepped + 1 ≤ _; omega
set_option maxRecDepth 100000 in
set_option maxHeartbeats 1000000 in
theorem append_any (g : Nat) (S : DS) (f : Int) (l : List Int) (w : World) (h : IsRef w g S) (hS : S.Good) (hs : S.stepped ≤ 1000000) (hl : l.length ≤ 1099511627776) :
    Calls Try.prog 36 #[.pointer (some ⟨g, 0, none⟩), .int .i64 f, .string (strOfNums l)] w (RetR w g (S.appS f l) (.int .i64 (S.appE f l))) := by
  have C1 := Lib.hid (may_any g S f w h)
  have C2 := Lib.hid (step_any g S w h hS hs)
  have HI := Lib.hid h
  have hna := hS.na
  have hnb := hS.nb
  have z0 := strOfNums_size S.a
  have z1 := strOfNums_size S.b
  have z2 := strOfNums_size l
  have c0 := h.c0
  have c1 := h.c1
  by_cases hm : S.may f = 0
  · have hf : f = 0 ∨ f = 1 := by
      unfold DS.may at hm
      split at hm
      · omega
      · split at hm
        · assumption
        · omega
    rw [hm] at C1
    rcases hf with rfl | rfl
    · by_cases hfull : 4194304 - (S.a.length : Int) < l.length
      · have HE := Lib.hid (show S.appE 0 l = 8 by unfold DS.appE; rw [if_neg (by omega), if_pos (show S.full 0 l.length from hfull)])
        have HS := Lib.hid (show S.appS 0 l = S by unfold DS.appS; rw [if_neg (by omega), if_pos (show S.full 0 l.length from hfull)])
        clear hm
        go_enter Try.func36, Try.ntmps36
        go_wp2_with fail
        refine C1.out.mono ?_
        rintro e w1 ⟨rfl, rfl⟩
        go_wp2_with fail
        go_ret
        exact ⟨by rw [HE.out]; rfl, by rw [HS.out]; exact HI.out, World.grownBy.refl _ _⟩
      · have hnf : ¬ S.full 0 l.length := hfull
        by_cases ha : S.arms = 0
        · have HE := Lib.hid (show S.appE 0 l = 6 by unfold DS.appE; (try unfold DS.syncE); rw [if_neg (by omega), if_neg hnf]; unfold DS.stepE; rw [if_pos ha])
          have HS := Lib.hid (show S.appS 0 l = S.step by unfold DS.appS; rw [if_neg (by omega), if_neg hnf, if_pos ha])
          rw [show decide (¬ S.arms = 0) = false by simp [ha]] at C2
          clear hm ha hnf
          go_enter Try.func36, Try.ntmps36
          go_wp2_with fail
          refine C1.out.mono ?_
          rintro e w1 ⟨rfl, rfl⟩
          go_wp2_with fail
          refine C2.out.mono ?_
          rintro e w2 ⟨rfl, hI2, hG2⟩
          go_wp2_with fail
          go_ret
          exact ⟨by rw [HE.out]; rfl, by rw [HS.out]; exact hI2, hG2⟩
        · have HE := Lib.hid (show S.appE 0 l = 0 by unfold DS.appE; (try unfold DS.syncE); rw [if_neg (by omega), if_neg hnf]; unfold DS.stepE; rw [if_neg ha])
          have HS := Lib.hid (show S.appS 0 l = S.step.setFile 0 (S.a ++ l) by unfold DS.appS; rw [if_neg (by omega), if_neg hnf, if_neg ha] <;> rfl)
          have HA := Lib.hid (show S.step.a = S.a by unfold DS.step; split <;> rfl)
          rw [show decide (¬ S.arms = 0) = true by simp [ha]] at C2
          clear hm ha hnf
          go_enter Try.func36, Try.ntmps36
          go_wp2_with fail
          refine C1.out.mono ?_
          rintro e w1 ⟨rfl, rfl⟩
          go_wp2_with fail
          refine C2.out.mono ?_
          rintro e w2 ⟨rfl, hI2, hG2⟩
          have d0 := hI2.c0
          rw [HA.out] at d0
          have df := fun i => Blk.frozen hI2 i
          clear c0 c1
          have hst := str_app S.a l
          have hsum : S.a.length + l.length ≤ 9223372036854775807 := by omega
          have hadd := fun wx => run_string_add_sum (P := Try.prog) wx (strOfNums S.a) (strOfNums l) (by rw [strOfNums_size, strOfNums_size]; exact hsum)
          have d2 := hI2.c2
          have d3 := hI2.c3
          go_wp2_with fail
          go_still_tail 13, (by kernel_rfl)
          change wpList _ _ _ _ _ w2.drew
          go_wp2_with fail
          go_ret
          refine ⟨by rw [HE.out]; rfl, ?_, grown_trans (grown_trans hG2 (grown_set _ _ _ _)) ⟨rfl, rfl, rfl, Nat.le_refl _, fun _ _ _ => rfl⟩⟩
          rw [HS.out]
          exact IsRef.set (w := w2) hI2 0 _ (by simp [refV, DS.setFile])
    · by_cases hfull : 4194304 - (S.b.length : Int) < l.length
      · have HE := Lib.hid (show S.appE 1 l = 8 by unfold DS.appE; rw [if_neg (by omega), if_pos (show S.full 1 l.length from hfull)])
        have HS := Lib.hid (show S.appS 1 l = S by unfold DS.appS; rw [if_neg (by omega), if_pos (show S.full 1 l.length from hfull)])
        clear hm
        go_enter Try.func36, Try.ntmps36
        go_wp2_with fail
        refine C1.out.mono ?_
        rintro e w1 ⟨rfl, rfl⟩
        go_wp2_with fail
        go_ret
        exact ⟨by rw [HE.out]; rfl, by rw [HS.out]; exact HI.out, World.grownBy.refl _ _⟩
      · have hnf : ¬ S.full 1 l.length := hfull
        by_cases ha : S.arms = 0
        · have HE := Lib.hid (show S.appE 1 l = 6 by unfold DS.appE; (try unfold DS.syncE); rw [if_neg (by omega), if_neg hnf]; unfold DS.stepE; rw [if_pos ha])
          have HS := Lib.hid (show S.appS 1 l = S.step by unfold DS.appS; rw [if_neg (by omega), if_neg hnf, if_pos ha])
          rw [show decide (¬ S.arms = 0) = false by simp [ha]] at C2
          clear hm ha hnf
          go_enter Try.func36, Try.ntmps36
          go_wp2_with fail
          refine C1.out.mono ?_
          rintro e w1 ⟨rfl, rfl⟩
          go_wp2_with fail
          refine C2.out.mono ?_
          rintro e w2 ⟨rfl, hI2, hG2⟩
          go_wp2_with fail
          go_ret
          exact ⟨by rw [HE.out]; rfl, by rw [HS.out]; exact hI2, hG2⟩
        · have HE := Lib.hid (show S.appE 1 l = 0 by unfold DS.appE; (try unfold DS.syncE); rw [if_neg (by omega), if_neg hnf]; unfold DS.stepE; rw [if_neg ha])
          have HS := Lib.hid (show S.appS 1 l = S.step.setFile 1 (S.b ++ l) by unfold DS.appS; rw [if_neg (by omega), if_neg hnf, if_neg ha] <;> rfl)
          have HA := Lib.hid (show S.step.b = S.b by unfold DS.step; split <;> rfl)
          rw [show decide (¬ S.arms = 0) = true by simp [ha]] at C2
          clear hm ha hnf
          go_enter Try.func36, Try.ntmps36
          go_wp2_with fail
          refine C1.out.mono ?_
          rintro e w1 ⟨rfl, rfl⟩
          go_wp2_with fail
          refine C2.out.mono ?_
          rintro e w2 ⟨rfl, hI2, hG2⟩
          have d0 := hI2.c1
          rw [HA.out] at d0
          have df := fun i => Blk.frozen hI2 i
          clear c0 c1
          have hst := str_app S.b l
          have hsum : S.b.length + l.length ≤ 9223372036854775807 := by omega
          have hadd := fun wx => run_string_add_sum (P := Try.prog) wx (strOfNums S.b) (strOfNums l) (by rw [strOfNums_size, strOfNums_size]; exact hsum)
          have d2 := hI2.c2
          have d3 := hI2.c3
          go_wp2_with fail
          go_still_tail 13, (by kernel_rfl)
          change wpList _ _ _ _ _ w2.drew
          go_wp2_with fail
          go_ret
          refine ⟨by rw [HE.out]; rfl, ?_, grown_trans (grown_trans hG2 (grown_set _ _ _ _)) ⟨rfl, rfl, rfl, Nat.le_refl _, fun _ _ _ => rfl⟩⟩
          rw [HS.out]
          exact IsRef.set (w := w2) hI2 1 _ (by simp [refV, DS.setFile])
  · have HE := Lib.hid (show S.appE f l = S.may f by unfold DS.appE; (try unfold DS.syncE); rw [if_pos hm])
    have HS := Lib.hid (show S.appS f l = S by unfold DS.appS; rw [if_pos hm])
    obtain ⟨x, hx⟩ : ∃ x, S.may f = x := ⟨_, rfl⟩
    rw [hx] at hm C1
    have HX := Lib.hid hx
    have hxx : (x != 0) = true := by simpa using hm
    clear hx
    go_enter Try.func36, Try.ntmps36
    go_wp2_with fail
    refine C1.out.mono ?_
    rintro e w1 ⟨rfl, rfl⟩
    go_wp2_with fail
    go_ret
    exact ⟨by rw [HE.out, HX.out]; rfl, by rw [HS.out]; exact HI.out, World.grownBy.refl _ _⟩

set_option maxRecDepth 100000 in
set_option maxHeartbeats 1000000 in
theorem sync_any (g : Nat) (S : DS) (f : Int) (w : World) (h : IsRef w g S) (hS : S.Good) (hs : S.stepped ≤ 1000000) :
    Calls Try.prog 68 #[.pointer (some ⟨g, 0, none⟩), .int .i64 f] w (RetR w g (S.syncS f) (.int .i64 (S.syncE f))) := by
  have C1 := Lib.hid (may_any g S f w h)
  have C2 := Lib.hid (step_any g S w h hS hs)
  have HI := Lib.hid h
  have hna := hS.na
  have hnb := hS.nb
  have z0 := strOfNums_size S.a
  have z1 := strOfNums_size S.b
  have c0 := h.c0
  have c1 := h.c1
  by_cases hm : S.may f = 0
  · have hf : f = 0 ∨ f = 1 := by
      unfold DS.may at hm
      split at hm
      · omega
      · split at hm
        · assumption
        · omega
    rw [hm] at C1
    rcases hf with rfl | rfl
    · by_cases ha : S.arms = 0
      · have HE := Lib.hid (show S.syncE 0 = 6 by unfold DS.syncE; (try unfold DS.syncE); rw [if_neg (by omega)]; unfold DS.stepE; rw [if_pos ha])
        have HS := Lib.hid (show S.syncS 0 = S.step by unfold DS.syncS; rw [if_neg (by omega), if_pos ha])
        rw [show decide (¬ S.arms = 0) = false by simp [ha]] at C2
        clear hm ha
        go_enter Try.func68, Try.ntmps68
        go_wp2_with fail
        refine C1.out.mono ?_
        rintro e w1 ⟨rfl, rfl⟩
        go_wp2_with fail
        refine C2.out.mono ?_
        rintro e w2 ⟨rfl, hI2, hG2⟩
        go_wp2_with fail
        go_ret
        exact ⟨by rw [HE.out]; rfl, by rw [HS.out]; exact hI2, hG2⟩
      · have HE := Lib.hid (show S.syncE 0 = 0 by unfold DS.syncE; (try unfold DS.syncE); rw [if_neg (by omega)]; unfold DS.stepE; rw [if_neg ha])
        have HS := Lib.hid (show S.syncS 0 = S.step.setLasts 0 S.a.length by unfold DS.syncS; rw [if_neg (by omega), if_neg ha] <;> rfl)
        have HA := Lib.hid (show S.step.a = S.a by unfold DS.step; split <;> rfl)
        rw [show decide (¬ S.arms = 0) = true by simp [ha]] at C2
        clear hm ha
        go_enter Try.func68, Try.ntmps68
        go_wp2_with fail
        refine C1.out.mono ?_
        rintro e w1 ⟨rfl, rfl⟩
        go_wp2_with fail
        refine C2.out.mono ?_
        rintro e w2 ⟨rfl, hI2, hG2⟩
        have d0 := hI2.c0
        rw [HA.out] at d0
        have df := fun i => Blk.frozen hI2 i
        clear c0 c1
        have d2 := hI2.c2
        have d3 := hI2.c3
        go_wp2_with fail
        go_still_tail 12, (by kernel_rfl)
        change wpList _ _ _ _ _ w2.drew
        go_wp2_with fail
        go_ret
        refine ⟨by rw [HE.out]; rfl, ?_, grown_trans (grown_trans hG2 (grown_set _ _ _ _)) ⟨rfl, rfl, rfl, Nat.le_refl _, fun _ _ _ => rfl⟩⟩
        rw [HS.out]
        exact IsRef.set (w := w2) hI2 2 _ (by simp [refV, DS.setLasts])
    · by_cases ha : S.arms = 0
      · have HE := Lib.hid (show S.syncE 1 = 6 by unfold DS.syncE; (try unfold DS.syncE); rw [if_neg (by omega)]; unfold DS.stepE; rw [if_pos ha])
        have HS := Lib.hid (show S.syncS 1 = S.step by unfold DS.syncS; rw [if_neg (by omega), if_pos ha])
        rw [show decide (¬ S.arms = 0) = false by simp [ha]] at C2
        clear hm ha
        go_enter Try.func68, Try.ntmps68
        go_wp2_with fail
        refine C1.out.mono ?_
        rintro e w1 ⟨rfl, rfl⟩
        go_wp2_with fail
        refine C2.out.mono ?_
        rintro e w2 ⟨rfl, hI2, hG2⟩
        go_wp2_with fail
        go_ret
        exact ⟨by rw [HE.out]; rfl, by rw [HS.out]; exact hI2, hG2⟩
      · have HE := Lib.hid (show S.syncE 1 = 0 by unfold DS.syncE; (try unfold DS.syncE); rw [if_neg (by omega)]; unfold DS.stepE; rw [if_neg ha])
        have HS := Lib.hid (show S.syncS 1 = S.step.setLasts 1 S.b.length by unfold DS.syncS; rw [if_neg (by omega), if_neg ha] <;> rfl)
        have HA := Lib.hid (show S.step.b = S.b by unfold DS.step; split <;> rfl)
        rw [show decide (¬ S.arms = 0) = true by simp [ha]] at C2
        clear hm ha
        go_enter Try.func68, Try.ntmps68
        go_wp2_with fail
        refine C1.out.mono ?_
        rintro e w1 ⟨rfl, rfl⟩
        go_wp2_with fail
        refine C2.out.mono ?_
        rintro e w2 ⟨rfl, hI2, hG2⟩
        have d0 := hI2.c1
        rw [HA.out] at d0
        have df := fun i => Blk.frozen hI2 i
        clear c0 c1
        have d2 := hI2.c2
        have d3 := hI2.c3
        go_wp2_with fail
        go_still_tail 12, (by kernel_rfl)
        change wpList _ _ _ _ _ w2.drew
        go_wp2_with fail
        go_ret
        refine ⟨by rw [HE.out]; rfl, ?_, grown_trans (grown_trans hG2 (grown_set _ _ _ _)) ⟨rfl, rfl, rfl, Nat.le_refl _, fun _ _ _ => rfl⟩⟩
        rw [HS.out]
        exact IsRef.set (w := w2) hI2 3 _ (by simp [refV, DS.setLasts])
  · have HE := Lib.hid (show S.syncE f = S.may f by unfold DS.syncE; (try unfold DS.syncE); rw [if_pos hm])
    have HS := Lib.hid (show S.syncS f = S by unfold DS.syncS; rw [if_pos hm])
    obtain ⟨x, hx⟩ : ∃ x, S.may f = x := ⟨_, rfl⟩
    rw [hx] at hm C1
    have HX := Lib.hid hx
    have hxx : (x != 0) = true := by simpa using hm
    clear hx
    go_enter Try.func68, Try.ntmps68
    go_wp2_with fail
    refine C1.out.mono ?_
    rintro e w1 ⟨rfl, rfl⟩
    go_wp2_with fail
    go_ret
    exact ⟨by rw [HE.out, HX.out]; rfl, by rw [HS.out]; exact HI.out, World.grownBy.refl _ _⟩

end Go.Proofs.Ytafdgibkhefplaa.ref4
