/- Plain numbers for WalLasts: what is noted of a log while it is written to, and what is read in the end. It speaks of no program. -/
import Derived.Test.YtafdgibkhefplaaWsR
namespace Go.Proofs.Ytafdgibkhefplaa.ws
open Go.Proofs.Ytafdgibkhefplaa.nums Go.Proofs.Ytafdgibkhefplaa.crc Go.Proofs.Ytafdgibkhefplaa.rec_ Go.Proofs.Ytafdgibkhefplaa.ds
set_option linter.unusedVariables false

/-- What is noted, behind j operations, of a log that may have failed: the records R, of which sf are safe, and, where a rewrite failed, those that it was to write. -/
structure Noted (j : Nat) (X : WS) (D : DS) (R : List (List Int)) (sf : Nat) (fl : Bool) (K : List (List Int)) : Prop where
  crash : ∃ f g L M s, Crash D f g L M s K ∧ R = L ++ M ∧ sf = L.length + s ∧ (fl = true ∨ D.file (oth f) ≠ rwB (g + 1) K)
  steps : D.stepped ≤ 3 + 3 * j
  powers : D.powers = 0
  few : R.length ≤ 30
  fewK : K.length ≤ 10
  run : D.off = false → fl = false ∧ ∃ L M s, Run X D L M s j ∧ R = L ++ M ∧ sf = L.length + s
section
variable {X : WS} {D : DS} {L M : List (List Int)} {s n : Nat}
theorem Run.len (h : Run X D L M s n) : (L ++ M).length ≤ 30 := by
  have := h.nL; have := h.nM; have := h.few
  rw [List.length_append]; omega
/-- The other file is no rewrite of nothing. -/
theorem Run.other_ne (h : Run X D L M s n) : D.file (oth X.file) ≠ rwB (X.gen + 1) [] := fun e => by
  have h1 := h.older (D.file (oth X.file)).length
  rw [List.take_of_length_le (Nat.le_refl _), e, look_new h.g1 (by have := h.gen; have := h.few; omega) recs_nil] at h1
  have h2 : X.gen + 1 < X.gen := h1 rfl
  omega
theorem Run.noted (h : Run X D L M s n) : Noted n X D (L ++ M) (L.length + s) false [] :=
  ⟨⟨X.file, X.gen, L, M, s, h.now, rfl, rfl, .inr h.other_ne⟩, h.steps, h.powers, h.len, by simp, fun _ => ⟨rfl, L, M, s, h, rfl, rfl⟩⟩
theorem append_other {r : List Int} (he : (appendO X D r).e ≠ 0) (g : Int) : (appendO X D r).D.file g = D.file g := by
  revert he
  apply append_ways X D r (P := fun o => o.e ≠ 0 → o.D.file g = D.file g)
  · exact fun _ _ => rfl
  · exact fun _ h _ => (app_bad h g).1
  · exact fun _ _ h => absurd rfl h
theorem sync_other (g : Int) : (syncO X D).D.file g = D.file g := by
  apply sync_ways X D (P := fun o => o.D.file g = D.file g)
  · exact fun _ => rfl
  · exact fun _ _ => sync_file D _ g
  · exact fun _ _ => sync_file D _ g
theorem Run.append_noted (h : Run X D L M s n) {r : List Int} (hn : n < 20) (hr : Byt r) (hl : r.length ≤ 300) :
    ((appendO X D r).e = 0 ∧ Noted (n + 1) (appendO X D r).X (appendO X D r).D ((L ++ M) ++ [r]) (L.length + s) false []) ∨ ((appendO X D r).e ≠ 0 ∧ Noted (n + 1) (appendO X D r).X (appendO X D r).D (L ++ M) (L.length + s) false []) := by
  rcases h.append hn hr hl with ⟨e, hR⟩ | ⟨e, ho, hC, hs, hp⟩
  · refine .inl ⟨e, ?_⟩
    have := hR.noted
    rwa [← List.append_assoc] at this
  · exact .inr ⟨e, ⟨⟨X.file, X.gen, L, M, s, hC, rfl, rfl, .inr (by rw [append_other e]; exact h.other_ne)⟩, hs, hp, h.len, by simp, fun k => absurd (ho.symm.trans k) (by decide)⟩⟩
theorem Run.sync_noted (h : Run X D L M s n) (hn : n < 20) :
    ((syncO X D).e = 0 ∧ Noted (n + 1) (syncO X D).X (syncO X D).D (L ++ M) (L ++ M).length false []) ∨ ((syncO X D).e ≠ 0 ∧ Noted (n + 1) (syncO X D).X (syncO X D).D (L ++ M) (L.length + s) false []) := by
  rcases h.sync hn with ⟨e, hR⟩ | ⟨e, ho, hC, hs, hp⟩
  · refine .inl ⟨e, ?_⟩
    have := hR.noted
    rwa [← List.length_append] at this
  · exact .inr ⟨e, ⟨⟨X.file, X.gen, L, M, s, hC, rfl, rfl, .inr (by rw [sync_other]; exact h.other_ne)⟩, hs, hp, h.len, by simp, fun k => absurd (ho.symm.trans k) (by decide)⟩⟩
theorem Run.rewrite_noted (h : Run X D L M s n) {K : List (List Int)} (hn : n < 20) (hK : Recs K) (hk : K.length ≤ 10) (hkf : K.flatten.length ≤ 2000) :
    ((rewriteO X D K).e = 0 ∧ Noted (n + 1) (rewriteO X D K).X (rewriteO X D K).D K K.length false []) ∨ ((rewriteO X D K).e ≠ 0 ∧ Noted (n + 1) (rewriteO X D K).X (rewriteO X D K).D (L ++ M) (L.length + s) true K) := by
  rcases h.rewrite hn hK hk hkf with ⟨e, hR⟩ | ⟨e, ho, hC, hs, hp⟩
  · refine .inl ⟨e, ?_⟩
    have := hR.noted
    rwa [List.append_nil, Nat.add_zero] at this
  · exact .inr ⟨e, ⟨⟨X.file, X.gen, L, M, s, hC, rfl, rfl, .inl rfl⟩, hs, hp, h.len, hk, fun k => absurd (ho.symm.trans k) (by decide)⟩⟩
theorem Run.arm (h : Run X D L M s n) {k : Int} (hk : -9223372036854775808 ≤ k ∧ k ≤ 9223372036854775807) : Run X (D.armS k) L M s n :=
  ⟨h.good.arm hk, h.off, h.file, h.g1, h.okL, h.okM, h.has, h.s1, h.last, h.older, h.recs, h.done, h.life, h.steps, h.powers, h.gen, h.few, h.nL, h.fL, h.nM, h.fM, ⟨h.fit.file, h.fit.g0, h.fit.g1, h.fit.recs, h.fit.many, h.fit.life, h.fit.s1, h.fit.size, h.fit.room⟩⟩
/-- What is read in the end. -/
theorem Noted.reads {R K : List (List Int)} {sf : Nat} {fl : Bool} (h : Noted n X D R sf fl K) (hn : n ≤ 20) (keep : List Int) (k : Int) (hk : -9223372036854775808 ≤ k ∧ k ≤ 9223372036854775807) (more : List Int) :
    (openO ((openO ((D.powS keep).armS k)).D.powS more)).e = 0 ∧
    ((sf ≤ (openO ((openO ((D.powS keep).armS k)).D.powS more)).X.recs.length ∧ (openO ((openO ((D.powS keep).armS k)).D.powS more)).X.recs.length ≤ R.length ∧ (openO ((openO ((D.powS keep).armS k)).D.powS more)).X.recs = R.take (openO ((openO ((D.powS keep).armS k)).D.powS more)).X.recs.length) ∨
     (fl = true ∧ (openO ((openO ((D.powS keep).armS k)).D.powS more)).X.recs = K)) := by
  obtain ⟨f, g, L, M, s, hC, rfl, rfl, hf⟩ := h.crash
  have hst := h.steps
  have hpw := h.powers
  obtain ⟨e, hr⟩ := hC.reads (by omega) (by omega) keep k hk more
  refine ⟨e, ?_⟩
  rcases hr with ⟨q, q1, q2, hr⟩ | ⟨hr, hw⟩
  · left
    rw [hr]
    have hl : (L ++ M.take q).length = L.length + q := by rw [List.length_append, List.length_take]; omega
    rw [hl]
    refine ⟨by omega, by rw [List.length_append]; omega, ?_⟩
    rw [List.take_append, List.take_of_length_le (show L.length ≤ L.length + q by omega), Nat.add_sub_cancel_left]
  · right
    rcases hf with h1 | h1
    · exact ⟨h1, hr⟩
    · exact absurd hw h1
end
end Go.Proofs.Ytafdgibkhefplaa.ws
