/- Plain numbers for a log on a disk that is armed: what each operation leaves, whether it fails or not. It speaks of no program. -/
import Derived.Test.YtafdgibkhefplaaJoin1
namespace Go.Proofs.Ytafdgibkhefplaa.ws
open Go.Proofs.Ytafdgibkhefplaa.nums Go.Proofs.Ytafdgibkhefplaa.crc Go.Proofs.Ytafdgibkhefplaa.rec_ Go.Proofs.Ytafdgibkhefplaa.ds
set_option linter.unusedVariables false

/-- A log that goes on, behind at most n operations: L was rewritten, M appended, s of them are safe. -/
structure Run (X : WS) (D : DS) (L M : List (List Int)) (s n : Nat) : Prop where
  good : D.Good
  off : D.off = false
  file : X.file = 0 ∨ X.file = 1
  g1 : 1 ≤ X.gen
  okL : Recs L
  okM : Recs M
  has : D.file X.file = rwB X.gen L ++ (M.map recR).flatten
  s1 : s ≤ M.length
  last : (rwB X.gen L ++ ((M.take s).map recR).flatten).length ≤ D.lasts X.file
  older : ∀ n, NotBetter (lookL ((D.file (oth X.file)).take n)) X.gen
  recs : X.recs = L ++ M
  done : X.done = false
  life : X.life = D.powers
  steps : D.stepped ≤ 3 + 3 * n
  powers : D.powers = 0
  gen : X.gen ≤ n + 1
  few : n ≤ 20
  nL : L.length ≤ 10
  fL : L.flatten.length ≤ 2000
  nM : M.length ≤ n
  fM : M.flatten.length ≤ 300 * n
  fit : Fit X D
section
variable {X : WS} {D : DS} {L M : List (List Int)} {s n : Nat}
theorem Run.sizes (h : Run X D L M s n) (g : Int) : (rwB g (L ++ M)).length ≤ 10000 ∧ (D.file X.file).length ≤ 10000 := by
  have h1 := h.nL
  have h2 := h.fL
  have h3 := h.nM
  have h4 := h.fM
  have h5 := h.few
  constructor
  · rw [rwB_len, List.length_append, List.flatten_append, List.length_append]
    omega
  · rw [h.has, List.length_append, rwB_len, flat_len]
    omega
theorem Run.may (h : Run X D L M s n) {K : List (List Int)} (hK : Recs K) : mayE X D K = 0 := may_open hK h.life h.done
theorem Run.crash (h : Run X D L M s n) {D' : DS} {K : List (List Int)} (hK : Recs K) (hG : D'.Good) (hf : D'.file X.file = D.file X.file ∧ D'.lasts X.file = D.lasts X.file) (ho : Other (D'.file (oth X.file)) X.gen K) : Crash D' X.file X.gen L M s K :=
  ⟨hG, h.file, h.g1, by have := h.gen; have := h.few; omega, h.okL, h.okM, hK, by have := (h.sizes (X.gen + 1)).1; omega, hf.1.trans h.has, h.s1, by rw [hf.2]; exact h.last, ho⟩
theorem Run.now (h : Run X D L M s n) : Crash D X.file X.gen L M s [] := h.crash recs_nil h.good ⟨rfl, rfl⟩ (.inl h.older)
theorem app_off {f : Int} {l : List Int} (hoff : D.off = false) (hf : f = 0 ∨ f = 1) (hl : (D.file f).length + l.length ≤ 4194304) (h : D.appE f l ≠ 0) : (D.appS f l).off = true := by
  have hm : D.may f = 0 := by unfold DS.may; rw [hoff, if_neg (by decide), if_pos hf]
  have hfull : ¬ D.full f l.length := by unfold DS.full; omega
  unfold DS.appE DS.stepE at h
  rw [if_neg (by omega), if_neg hfull] at h
  by_cases ha : D.arms = 0
  · unfold DS.appS
    rw [if_neg (by omega), if_neg hfull, if_pos ha]
    unfold DS.step
    rw [if_pos ha]
  · rw [if_neg ha] at h; exact absurd rfl h
theorem sync_off {f : Int} (hoff : D.off = false) (hf : f = 0 ∨ f = 1) (h : D.syncE f ≠ 0) : (D.syncS f).off = true := by
  have hm : D.may f = 0 := by unfold DS.may; rw [hoff, if_neg (by decide), if_pos hf]
  unfold DS.syncE DS.stepE at h
  rw [if_neg (by omega)] at h
  by_cases ha : D.arms = 0
  · unfold DS.syncS
    rw [if_neg (by omega), if_pos ha]
    unfold DS.step
    rw [if_pos ha]
  · rw [if_neg ha] at h; exact absurd rfl h
theorem clear_off {f : Int} (hoff : D.off = false) (hf : f = 0 ∨ f = 1) (h : D.clearE f ≠ 0) : (D.clearS f).off = true := by
  have hm : D.may f = 0 := by unfold DS.may; rw [hoff, if_neg (by decide), if_pos hf]
  unfold DS.clearE DS.syncE DS.stepE at h
  rw [if_neg (by omega)] at h
  by_cases ha : D.arms = 0
  · unfold DS.clearS
    rw [if_neg (by omega), if_pos ha]
    unfold DS.step
    rw [if_pos ha]
  · rw [if_neg ha] at h; exact absurd rfl h
theorem step_on (ha : ¬ D.arms = 0) : D.step.off = D.off := by unfold DS.step; rw [if_neg ha]
theorem setFile_off (D : DS) (f : Int) (l : List Int) : (D.setFile f l).off = D.off := by unfold DS.setFile; split <;> rfl
theorem setLasts_off (D : DS) (f : Int) (n : Nat) : (D.setLasts f n).off = D.off := by unfold DS.setLasts; split <;> rfl
theorem Run.append (h : Run X D L M s n) {r : List Int} (hn : n < 20) (hr : Byt r) (hl : r.length ≤ 300) :
    ((appendO X D r).e = 0 ∧ Run (appendO X D r).X (appendO X D r).D L (M ++ [r]) s (n + 1)) ∨ ((appendO X D r).e ≠ 0 ∧ (appendO X D r).D.off = true ∧ Crash (appendO X D r).D X.file X.gen L M s [] ∧ (appendO X D r).D.stepped ≤ 3 + 3 * (n + 1) ∧ (appendO X D r).D.powers = 0) := by
  have hst := h.steps
  obtain ⟨n1, n2, n3⟩ := append_near X D r h.good (by omega) hr
  have hF := h.fit.append (r := r) hr (by rcases h.file with e | e <;> rw [e] <;> decide)
  have hsz := (h.sizes (X.gen + 1)).2
  have hrl : (recR r).length = 9 + r.length := by unfold recR; rw [rec_.recB_length, List.length_cons]; omega
  have hmay := h.may (K := [r]) (fun t ht => by rw [List.mem_singleton] at ht; subst ht; exact ⟨hr, by omega⟩)
  revert n1 n2 n3 hF
  refine append_ways X D r (P := fun O => O.D.Good → O.D.stepped ≤ D.stepped + 3 → O.D.powers = D.powers → Fit O.X O.D → (O.e = 0 ∧ Run O.X O.D L (M ++ [r]) s (n + 1)) ∨ (O.e ≠ 0 ∧ O.D.off = true ∧ Crash O.D X.file X.gen L M s [] ∧ O.D.stepped ≤ 3 + 3 * (n + 1) ∧ O.D.powers = 0)) (fun hm => absurd hmay hm) ?_ ?_
  · intro _ he n1 n2 n3 hF
    have hoff : (D.appS X.file (recR r)).off = true := app_off h.off h.file (by omega) he
    exact .inr ⟨he, hoff, h.crash recs_nil n1 (app_bad he _) (.inl (fun k => by rw [show (halt X (D.appS X.file (recR r)) (D.appE X.file (recR r))).D.file (oth X.file) = D.file (oth X.file) from (app_bad he _).1]; exact h.older k)), by omega, n3.trans h.powers⟩
  · intro _ he n1 n2 n3 hF
    obtain ⟨_, _, a1, a2, e⟩ := app_ok he
    have hne := (oth_ne h.file).1
    have h1 := h.nM
    have h2 := h.fM
    have hg := h.gen
    refine .inl ⟨rfl, ⟨n1, ?_, h.file, h.g1, h.okL, h.okM.append (fun t ht => by rw [List.mem_singleton] at ht; subst ht; exact ⟨hr, by omega⟩), ?_, ?_, ?_, ?_, ?_, h.done, ?_, by omega, n3.trans h.powers, by dsimp only; omega, by omega, h.nL, h.fL, ?_, ?_, hF⟩⟩
    · dsimp only; rw [e, setFile_off, step_on a1]; exact h.off
    · dsimp only; rw [e, setFile_file _ _ h.file, h.has, List.map_append, List.flatten_append, List.append_assoc]; simp
    · rw [List.length_append]; have := h.s1; omega
    · dsimp only
      rw [e, setFile_lasts, step_lasts', List.take_append_of_le_length h.s1]
      exact h.last
    · dsimp only
      intro k
      rw [e, setFile_other _ _ h.file (oth_in _) hne, step_file']
      exact h.older k
    · show X.recs ++ [r] = _
      rw [h.recs, List.append_assoc]
    · show X.life = _
      rw [h.life]; exact n3.symm
    · rw [List.length_append, List.length_singleton]; omega
    · rw [List.flatten_append, List.length_append, List.flatten_cons, List.flatten_nil, List.append_nil]; omega
theorem Run.sync (h : Run X D L M s n) (hn : n < 20) :
    ((syncO X D).e = 0 ∧ Run (syncO X D).X (syncO X D).D L M M.length (n + 1)) ∨ ((syncO X D).e ≠ 0 ∧ (syncO X D).D.off = true ∧ Crash (syncO X D).D X.file X.gen L M s [] ∧ (syncO X D).D.stepped ≤ 3 + 3 * (n + 1) ∧ (syncO X D).D.powers = 0) := by
  have hst := h.steps
  obtain ⟨n1, n2, n3⟩ := sync_near X D h.good (by omega)
  have hF := h.fit.sync
  have hmay := h.may recs_nil
  revert n1 n2 n3 hF
  refine sync_ways X D (P := fun O => O.D.Good → O.D.stepped ≤ D.stepped + 3 → O.D.powers = D.powers → Fit O.X O.D → (O.e = 0 ∧ Run O.X O.D L M M.length (n + 1)) ∨ (O.e ≠ 0 ∧ O.D.off = true ∧ Crash O.D X.file X.gen L M s [] ∧ O.D.stepped ≤ 3 + 3 * (n + 1) ∧ O.D.powers = 0)) (fun hm => absurd hmay hm) ?_ ?_
  · intro _ he n1 n2 n3 hF
    have hoff : (D.syncS X.file).off = true := sync_off h.off h.file he
    exact .inr ⟨he, hoff, h.crash recs_nil n1 (sync_bad he _) (.inl (fun k => by rw [show (halt X (D.syncS X.file) (D.syncE X.file)).D.file (oth X.file) = D.file (oth X.file) from (sync_bad he _).1]; exact h.older k)), by omega, n3.trans h.powers⟩
  · intro _ he n1 n2 n3 hF
    obtain ⟨_, _, a1, e⟩ := sync_ok he
    have h1 := h.nM
    have h2 := h.fM
    have hg := h.gen
    refine .inl ⟨rfl, ⟨n1, ?_, h.file, h.g1, h.okL, h.okM, ?_, Nat.le_refl _, ?_, ?_, h.recs, h.done, ?_, by omega, n3.trans h.powers, by dsimp only; omega, by omega, h.nL, h.fL, by omega, by omega, hF⟩⟩
    · dsimp only; rw [e, setLasts_off, step_on a1]; exact h.off
    · dsimp only; rw [e, setLasts_file, step_file']; exact h.has
    · dsimp only
      rw [e, setLasts_lasts _ _ h.file, List.take_length, h.has]
      exact Nat.le_refl _
    · dsimp only
      intro k
      rw [e, setLasts_file, step_file']
      exact h.older k
    · show X.life = _
      rw [h.life]; exact n3.symm
theorem Run.rewrite (h : Run X D L M s n) {K : List (List Int)} (hn : n < 20) (hK : Recs K) (hk : K.length ≤ 10) (hkf : K.flatten.length ≤ 2000) :
    ((rewriteO X D K).e = 0 ∧ Run (rewriteO X D K).X (rewriteO X D K).D K [] 0 (n + 1)) ∨ ((rewriteO X D K).e ≠ 0 ∧ (rewriteO X D K).D.off = true ∧ Crash (rewriteO X D K).D X.file X.gen L M s K ∧ (rewriteO X D K).D.stepped ≤ 3 + 3 * (n + 1) ∧ (rewriteO X D K).D.powers = 0) := by
  have hst := h.steps
  have hg := h.gen
  have hg1 := h.g1
  have hY : ∀ r ∈ K, Byt r := fun r hr => (hK r hr).1
  obtain ⟨n1, n2, n3⟩ := rewrite_near X D K h.good (by omega) hY
  have hF := h.fit.rewrite hY
  obtain ⟨l1, l2⟩ := rewrite_leaves X D K h.file
  have hmay := h.may hK
  have ho : rwF X = oth X.file := rfl
  have hoi := oth_in X.file
  have hne := (oth_ne h.file).1
  have hoo := (oth_ne h.file).2
  have hO : Other ((rewriteO X D K).D.file (oth X.file)) X.gen K := by
    rcases l2 with l2 | l2 | l2
    · rw [l2]; exact .inl h.older
    · rw [l2]; exact Other.empty _ _
    · rw [l2]; exact .inr rfl
  have hlen : (rwB (X.gen + 1) K).length ≤ 4194304 := by rw [rwB_len]; omega
  revert n1 n2 n3 hF hO l1
  refine rewrite_ways X D K (P := fun O => O.D.Good → O.D.stepped ≤ D.stepped + 3 → O.D.powers = D.powers → Fit O.X O.D → (O.D.file X.file = D.file X.file ∧ O.D.lasts X.file = D.lasts X.file) → Other (O.D.file (oth X.file)) X.gen K → (O.e = 0 ∧ Run O.X O.D K [] 0 (n + 1)) ∨ (O.e ≠ 0 ∧ O.D.off = true ∧ Crash O.D X.file X.gen L M s K ∧ O.D.stepped ≤ 3 + 3 * (n + 1) ∧ O.D.powers = 0)) (fun hm => absurd hmay hm) (fun _ hh => by omega) ?_ ?_ ?_ ?_
  · intro _ _ he n1 n2 n3 hF l1 hO
    rw [ho] at he n1 n2 n3 hO l1 ⊢
    exact .inr ⟨he, clear_off h.off hoi he, h.crash hK n1 l1 hO, by omega, n3.trans h.powers⟩
  · intro _ _ hc he n1 n2 n3 hF l1 hO
    rw [ho] at hc he n1 n2 n3 hO l1 ⊢
    obtain ⟨_, _, a1, e⟩ := clear_ok hc
    have hoff : (D.clearS (oth X.file)).off = false := by rw [e, setLasts_off, setFile_off, step_on a1]; exact h.off
    have hcf := clear_file hc
    exact .inr ⟨he, app_off hoff hoi (by rw [hcf]; simpa using hlen) he, h.crash hK n1 l1 hO, by omega, n3.trans h.powers⟩
  · intro _ _ hc ha he n1 n2 n3 hF l1 hO
    rw [ho] at hc ha he n1 n2 n3 hO l1 ⊢
    obtain ⟨_, _, a1, e⟩ := clear_ok hc
    have hoff : (D.clearS (oth X.file)).off = false := by rw [e, setLasts_off, setFile_off, step_on a1]; exact h.off
    obtain ⟨_, _, b1, _, e2⟩ := app_ok ha
    have hoff2 : ((D.clearS (oth X.file)).appS (oth X.file) (rwB (X.gen + 1) K)).off = false := by rw [e2, setFile_off, step_on b1]; exact hoff
    exact .inr ⟨he, sync_off hoff2 hoi he, h.crash hK n1 l1 hO, by omega, n3.trans h.powers⟩
  · intro _ _ hc ha he n1 n2 n3 hF l1 hO
    rw [ho] at hc ha he n1 n2 n3 hF hO l1 ⊢
    obtain ⟨_, _, a1, e⟩ := clear_ok hc
    have hoff : (D.clearS (oth X.file)).off = false := by rw [e, setLasts_off, setFile_off, step_on a1]; exact h.off
    obtain ⟨_, _, b1, _, e2⟩ := app_ok ha
    have hoff2 : ((D.clearS (oth X.file)).appS (oth X.file) (rwB (X.gen + 1) K)).off = false := by rw [e2, setFile_off, step_on b1]; exact hoff
    obtain ⟨_, _, c1, e3⟩ := sync_ok he
    have hcf := clear_file hc
    have haf := app_file ha
    rw [hcf, List.nil_append] at haf
    refine .inl ⟨rfl, ⟨n1, ?_, hoi, by dsimp only; omega, hK, recs_nil, ?_, Nat.le_refl _, ?_, ?_, by simp, h.done, ?_, by omega, n3.trans h.powers, by dsimp only; omega, by omega, hk, hkf, Nat.zero_le _, Nat.zero_le _, hF⟩⟩
    · dsimp only; rw [e3, setLasts_off, step_on c1]; exact hoff2
    · dsimp only; rw [sync_file, haf]; simp
    · dsimp only
      rw [e3, setLasts_lasts _ _ hoi, haf]
      simp
    · dsimp only
      intro k hw
      rw [hoo, l1.1, h.has]
      have := gen_cut h.g1 (by have := h.few; omega) h.okL h.okM k
      omega
    · show X.life = _
      rw [h.life]; exact n3.symm
end
/-- The log of a new disk. -/
theorem Run.begun : (openO DS.fresh).e = 0 ∧ Run (openO DS.fresh).X (openO DS.fresh).D [] [] 0 0 := by
  have hn := open_near DS.fresh DS.Good.fresh (show (0 : Nat) ≤ 999000 by omega)
  refine ⟨by kernel_rfl, ⟨hn.1, by kernel_rfl, .inl (by kernel_rfl), by rw [show (openO DS.fresh).X.gen = 1 by kernel_rfl]; decide, recs_nil, recs_nil, by kernel_rfl, Nat.le_refl _, ?_, fun k => ?_, by kernel_rfl, by kernel_rfl, by kernel_rfl, hn.2.1, hn.2.2, by rw [show (openO DS.fresh).X.gen = 1 by kernel_rfl]; decide, by omega, by simp, by simp, by simp, by simp, Fit.open_ DS.Good.fresh⟩⟩
  · rw [show (openO DS.fresh).X.gen = 1 by kernel_rfl]
    have h1 : (openO DS.fresh).D.lasts (openO DS.fresh).X.file = 26 := by kernel_rfl
    rw [h1]
    simp [rwB_len]
  · have h1 : (openO DS.fresh).D.file (oth (openO DS.fresh).X.file) = [] := by kernel_rfl
    rw [h1, List.take_nil]
    exact look_empty _
end Go.Proofs.Ytafdgibkhefplaa.ws
