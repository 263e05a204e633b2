/- Plain numbers for a disk that is armed: so many steps, and the next one does nothing. It speaks of no program. -/
import Derived.Test.YtkjaljfoaagfdaaDsG
namespace Go.Proofs.Ytkjaljfoaagfdaa.ds.DS
open Go.Proofs.Ytkjaljfoaagfdaa.nums Go.Proofs.Ytkjaljfoaagfdaa.ds
set_option linter.unusedVariables false

/-- Armed for n steps, i steps tried; so many bytes 7 in file 0, of which so many last. -/
def armd (n i size las : Nat) : DS := if i ≤ n then ⟨List.replicate size 7, [], las, 0, false, ((n - i : Nat) : Int), 0, i⟩ else ⟨List.replicate size 7, [], las, 0, true, 0, 0, n⟩
theorem armd_new (n : Nat) : DS.fresh.armS n = armd n 0 0 0 := by
  unfold armd DS.armS
  rw [if_pos (Nat.zero_le _)]
  show DS.mk [] [] 0 0 false (max (n : Int) (-1)) 0 0 = _
  rw [show max (n : Int) (-1) = ((n - 0 : Nat) : Int) by omega]
  rfl
theorem byt7 (k : Nat) : Byt (List.replicate k 7) := fun x hx => by
  have := (List.mem_replicate.1 hx).2
  omega
theorem armd_good {n i size las : Nat} (hn : n ≤ 30) (hi : i ≤ 40) (hs : size ≤ 100) (hl : las ≤ size) : (armd n i size las).Good ∧ (armd n i size las).stepped ≤ 100 ∧ (armd n i size las).powers ≤ 100 := by
  unfold armd
  split
  · exact ⟨⟨byt7 _, Byt.nil, by show las ≤ (List.replicate size (7 : Int)).length; rw [List.length_replicate]; exact hl, Nat.le_refl _, by show (List.replicate size (7 : Int)).length ≤ 4194304; rw [List.length_replicate]; omega, Nat.zero_le _, by show (-1 : Int) ≤ ((n - i : Nat) : Int); omega, by show ((n - i : Nat) : Int) ≤ 9223372036854775807; omega, Nat.zero_le _, by show i ≤ 1000000000; omega⟩, by show i ≤ 100; omega, Nat.zero_le _⟩
  · exact ⟨⟨byt7 _, Byt.nil, by show las ≤ (List.replicate size (7 : Int)).length; rw [List.length_replicate]; exact hl, Nat.le_refl _, by show (List.replicate size (7 : Int)).length ≤ 4194304; rw [List.length_replicate]; omega, Nat.zero_le _, by show (-1 : Int) ≤ 0; decide, by show (0 : Int) ≤ 9223372036854775807; decide, Nat.zero_le _, by show n ≤ 1000000000; omega⟩, by show n ≤ 100; omega, Nat.zero_le _⟩
theorem rep_snoc (k : Nat) : List.replicate k (7 : Int) ++ [7] = List.replicate (k + 1) 7 := by rw [List.replicate_succ']
/-- What the first error is, and what a step makes, in the three cases. -/
theorem armd_lt {n i size las : Nat} (h : i < n) : (∀ f, f = 0 ∨ f = 1 → (armd n i size las).may f = 0) ∧ (armd n i size las).stepE = 0 ∧ ¬ (armd n i size las).arms = 0 ∧ (armd n i size las).step = armd n (i + 1) size las := by
  have e : armd n i size las = ⟨List.replicate size 7, [], las, 0, false, ((n - i : Nat) : Int), 0, i⟩ := by unfold armd; rw [if_pos (by omega)]
  have e2 : armd n (i + 1) size las = ⟨List.replicate size 7, [], las, 0, false, ((n - (i + 1) : Nat) : Int), 0, i + 1⟩ := by unfold armd; rw [if_pos (by omega)]
  have ha : ¬ (armd n i size las).arms = 0 := by rw [e]; show ¬ ((n - i : Nat) : Int) = 0; omega
  refine ⟨fun f hf => ?_, by unfold DS.stepE; rw [if_neg ha], ha, ?_⟩
  · rw [e]; unfold DS.may; rw [if_neg (by show ¬ (false = true); decide), if_pos hf]
  · unfold DS.step
    rw [if_neg ha, e, e2]
    show DS.mk _ _ _ _ _ (if (0 : Int) < ((n - i : Nat) : Int) then ((n - i : Nat) : Int) - 1 else _) _ _ = _
    rw [if_pos (by omega), show ((n - i : Nat) : Int) - 1 = ((n - (i + 1) : Nat) : Int) by omega]
theorem armd_eq {n size las : Nat} : (∀ f, f = 0 ∨ f = 1 → (armd n n size las).may f = 0) ∧ (armd n n size las).stepE = 6 ∧ (armd n n size las).arms = 0 ∧ (armd n n size las).step = armd n (n + 1) size las := by
  have e : armd n n size las = ⟨List.replicate size 7, [], las, 0, false, ((n - n : Nat) : Int), 0, n⟩ := by unfold armd; rw [if_pos (Nat.le_refl _)]
  have e2 : armd n (n + 1) size las = ⟨List.replicate size 7, [], las, 0, true, 0, 0, n⟩ := by unfold armd; rw [if_neg (by omega)]
  have ha : (armd n n size las).arms = 0 := by rw [e]; show ((n - n : Nat) : Int) = 0; omega
  refine ⟨fun f hf => ?_, by unfold DS.stepE; rw [if_pos ha], ha, ?_⟩
  · rw [e]; unfold DS.may; rw [if_neg (by show ¬ (false = true); decide), if_pos hf]
  · unfold DS.step
    rw [if_pos ha, e, e2]
    show DS.mk _ _ _ _ _ ((n - n : Nat) : Int) _ _ = _
    rw [Nat.sub_self]; rfl
theorem armd_gt {n i size las : Nat} (h : n < i) : (∀ f, (armd n i size las).may f = 6) ∧ armd n i size las = armd n (i + 1) size las := by
  have e : armd n i size las = ⟨List.replicate size 7, [], las, 0, true, 0, 0, n⟩ := by unfold armd; rw [if_neg (by omega)]
  have e2 : armd n (i + 1) size las = ⟨List.replicate size 7, [], las, 0, true, 0, 0, n⟩ := by unfold armd; rw [if_neg (by omega)]
  exact ⟨fun f => by rw [e]; unfold DS.may; rw [if_pos rfl], by rw [e, e2]⟩
theorem armd_off {n i size las : Nat} : (armd n i size las).off = decide (n < i) ∧ (armd n i size las).stepped = min i n := by
  unfold armd
  split
  · exact ⟨by show false = _; simp; omega, by show i = _; omega⟩
  · exact ⟨by show true = _; simp; omega, by show n = _; omega⟩
theorem armd_file {n i size las : Nat} : (armd n i size las).file 0 = List.replicate size 7 := by unfold armd; split <;> rfl
theorem armd_b {n i size las : Nat} : ((armd n i size las).setFile 1 []).setLasts 1 0 = armd n i size las := by unfold armd; split <;> rfl
theorem armd_set {n i size las : Nat} : (armd n i size las).setFile 0 (List.replicate (size + 1) 7) = armd n i (size + 1) las := by unfold armd; split <;> rfl
theorem armd_las {n i size las k : Nat} : (armd n i size las).setLasts 0 k = armd n i size k := by unfold armd; split <;> rfl
/-- Append, Sync, Clear. -/
theorem armd_app {n i size las : Nat} (hs : size ≤ 1000) : (armd n i size las).appE 0 [7] = (if i < n then 0 else 6) ∧ (armd n i size las).appS 0 [7] = armd n (i + 1) (if i < n then size + 1 else size) las := by
  have hf : ¬ (armd n i size las).full 0 [(7 : Int)].length := by unfold DS.full; rw [armd_file, List.length_replicate]; show ¬ (4194304 - (size : Int) < ((1 : Nat) : Int)); omega
  rcases Nat.lt_trichotomy i n with h | rfl | h
  · obtain ⟨h1, h2, h3, h4⟩ := armd_lt (size := size) (las := las) h
    rw [if_pos h, if_pos h]
    constructor
    · unfold DS.appE; rw [if_neg (by rw [h1 0 (.inl rfl)]; decide), if_neg hf, h2]
    · unfold DS.appS; rw [if_neg (by rw [h1 0 (.inl rfl)]; decide), if_neg hf, if_neg h3, h4, armd_file, rep_snoc, armd_set]
  · obtain ⟨h1, h2, h3, h4⟩ := armd_eq (n := i) (size := size) (las := las)
    rw [if_neg (by omega), if_neg (by omega)]
    constructor
    · unfold DS.appE; rw [if_neg (by rw [h1 0 (.inl rfl)]; decide), if_neg hf, h2]
    · unfold DS.appS; rw [if_neg (by rw [h1 0 (.inl rfl)]; decide), if_neg hf, if_pos h3, h4]
  · obtain ⟨h1, h2⟩ := armd_gt (size := size) (las := las) h
    rw [if_neg (by omega), if_neg (by omega)]
    constructor
    · unfold DS.appE; rw [if_pos (by rw [h1]; decide), h1]
    · unfold DS.appS; rw [if_pos (by rw [h1]; decide), ← h2]
theorem armd_sync {n i size las : Nat} : (armd n i size las).syncE 0 = (if i < n then 0 else 6) ∧ (armd n i size las).syncS 0 = armd n (i + 1) size (if i < n then size else las) := by
  rcases Nat.lt_trichotomy i n with h | rfl | h
  · obtain ⟨h1, h2, h3, h4⟩ := armd_lt (size := size) (las := las) h
    rw [if_pos h, if_pos h]
    constructor
    · unfold DS.syncE; rw [if_neg (by rw [h1 0 (.inl rfl)]; decide), h2]
    · unfold DS.syncS; rw [if_neg (by rw [h1 0 (.inl rfl)]; decide), if_neg h3, h4, armd_file, List.length_replicate, armd_las]
  · obtain ⟨h1, h2, h3, h4⟩ := armd_eq (n := i) (size := size) (las := las)
    rw [if_neg (by omega), if_neg (by omega)]
    constructor
    · unfold DS.syncE; rw [if_neg (by rw [h1 0 (.inl rfl)]; decide), h2]
    · unfold DS.syncS; rw [if_neg (by rw [h1 0 (.inl rfl)]; decide), if_pos h3, h4]
  · obtain ⟨h1, h2⟩ := armd_gt (size := size) (las := las) h
    rw [if_neg (by omega), if_neg (by omega)]
    constructor
    · unfold DS.syncE; rw [if_pos (by rw [h1]; decide), h1]
    · unfold DS.syncS; rw [if_pos (by rw [h1]; decide), ← h2]
theorem armd_clear {n i size las : Nat} : (armd n i size las).clearE 1 = (if i < n then 0 else 6) ∧ (armd n i size las).clearS 1 = armd n (i + 1) size las := by
  rcases Nat.lt_trichotomy i n with h | rfl | h
  · obtain ⟨h1, h2, h3, h4⟩ := armd_lt (size := size) (las := las) h
    rw [if_pos h]
    constructor
    · unfold DS.clearE DS.syncE; rw [if_neg (by rw [h1 1 (.inr rfl)]; decide), h2]
    · unfold DS.clearS; rw [if_neg (by rw [h1 1 (.inr rfl)]; decide), if_neg h3, h4, armd_b]
  · obtain ⟨h1, h2, h3, h4⟩ := armd_eq (n := i) (size := size) (las := las)
    rw [if_neg (by omega)]
    constructor
    · unfold DS.clearE DS.syncE; rw [if_neg (by rw [h1 1 (.inr rfl)]; decide), h2]
    · unfold DS.clearS; rw [if_neg (by rw [h1 1 (.inr rfl)]; decide), if_pos h3, h4]
  · obtain ⟨h1, h2⟩ := armd_gt (size := size) (las := las) h
    rw [if_neg (by omega)]
    constructor
    · unfold DS.clearE DS.syncE; rw [if_pos (by rw [h1]; decide), h1]
    · unfold DS.clearS; rw [if_pos (by rw [h1]; decide), ← h2]
/-- Behind Power([1]). -/
theorem armd_pow {n i size las : Nat} (hl : las ≤ size) (hs : size ≤ 1000) : (((armd n i size las).powS [1]).readL 0).length = las + min 1 (size - las) ∧ ((armd n i size las).powS [1]).may 0 = 0 ∧ ((armd n i size las).powS [1]).off = false ∧ ((armd n i size las).powS [1]).appE 0 [] = 0 := by
  have hm : ((armd n i size las).powS [1]).may 0 = 0 := rfl
  have ha : (armd n i size las).a = List.replicate size 7 := by unfold armd; split <;> rfl
  have hla : (armd n i size las).la = las := by unfold armd; split <;> rfl
  have hfile : ((armd n i size las).powS [1]).file 0 = (List.replicate size (7 : Int)).take (las + min 1 (size - las)) := by
    show (armd n i size las).a.take ((armd n i size las).la + min (keepN [1] 0) ((armd n i size las).a.length - (armd n i size las).la)) = _
    rw [ha, hla, List.length_replicate]
    rfl
  have hlen : (((armd n i size las).powS [1]).file 0).length = las + min 1 (size - las) := by rw [hfile, List.length_take, List.length_replicate]; omega
  refine ⟨?_, hm, rfl, ?_⟩
  · unfold DS.readL; rw [if_neg (by rw [hm]; decide), hlen]
  · unfold DS.appE
    rw [if_neg (by rw [hm]; decide), if_neg (by unfold DS.full; rw [hlen]; show ¬ (4194304 - ((las + min 1 (size - las) : Nat) : Int) < ((0 : Nat) : Int)); omega)]
    rfl
end Go.Proofs.Ytkjaljfoaagfdaa.ds.DS
