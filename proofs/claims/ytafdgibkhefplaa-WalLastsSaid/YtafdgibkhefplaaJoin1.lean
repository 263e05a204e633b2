/- Texts of this claim, joined (WsT, WsP, Kit, Info, Frame, Room, Put, Get, RefW, GetR, Twin, KitV, KitOp, KitOpW, FrameV, FrameB, FrameOp, FrameOpW, KitC, KitO): see each one's own words. -/
import Derived.Test.YtafdgibkhefplaaJoin0
import Derived.WalkKit
import Derived.WalkLawsBesides
import Derived.WalkSpells
import Derived.OwnWalk
import Derived.Laws.CopyOwn
import Derived.Laws.BytesArg
import Derived.Lib.Hide
import Derived.Test.YtafdgibkhefplaaProg
import Derived.Test.YtafdgibkhefplaaRows
import Derived.ProofKit
import Derived.OpenShut
import Derived.Outline
import Derived.Deep.Grids
import Derived.Lib.ConvBytes
import Derived.ArgAppend
/- Plain numbers for a log on a disk whose power fails: what is read behind a failure of the power, an opening that may fail, and one more failure. It speaks of no program. -/
namespace Go.Proofs.Ytafdgibkhefplaa.ws
open Go.Proofs.Ytafdgibkhefplaa.nums Go.Proofs.Ytafdgibkhefplaa.crc Go.Proofs.Ytafdgibkhefplaa.rec_ Go.Proofs.Ytafdgibkhefplaa.ds
set_option linter.unusedVariables false

/-- What the other file may be: no better than g, however it is cut; or a whole rewrite of K. -/
def Other (l : List Int) (g : Int) (K : List (List Int)) : Prop := (∀ n, NotBetter (lookL (l.take n)) g) ∨ l = rwB (g + 1) K
theorem Other.empty (g : Int) (K : List (List Int)) : Other [] g K := .inl (fun n => by rw [List.take_nil]; exact look_empty g)
theorem Other.cut {l : List Int} {g : Int} {K : List (List Int)} (h1 : 1 ≤ g) (h2 : g + 1 < 4611686018427387904) (hK : Recs K) (h : Other l g K) (c : Nat) : Other (l.take c) g K := by
  rcases h with h | rfl
  · exact .inl (fun n => by rw [List.take_take]; exact h _)
  · rcases Nat.lt_or_ge c (rwB (g + 1) K).length with hc | hc
    · refine .inl (fun n => ?_)
      rw [List.take_take]
      intro hw
      rw [look_short (by omega) h2 hK _ (by omega)] at hw
      exact absurd hw (by decide)
    · exact .inr (List.take_of_length_le hc)
/-- Behind a power: the file f says g and R; all is durable. -/
structure Settled (D : DS) (f g : Int) (R K : List (List Int)) : Prop where
  good : D.Good
  off : D.off = false
  file : f = 0 ∨ f = 1
  g1 : 1 ≤ g
  g2 : g + 2 < 4611686018427387904
  okR : Recs R
  okK : Recs K
  fit : (rwB (g + 1) R).length ≤ 4194304
  says : ∃ b, lookL (D.file f) = ⟨true, b, g, R⟩
  last : D.lasts f = (D.file f).length
  other : Other (D.file (oth f)) g K
  olast : D.lasts (oth f) = (D.file (oth f)).length
section
variable {D : DS} {f g : Int} {R K : List (List Int)}
theorem look_new (g1 : 1 ≤ g) (g2 : g + 2 < 4611686018427387904) (hK : Recs K) : lookL (rwB (g + 1) K) = ⟨true, false, g + 1, K⟩ := by
  have h := lookL_log (g := g + 1) (M := []) (by omega) (by omega) hK recs_nil Byt.nil (show nextE [] 0 ≠ 0 by decide)
  simpa using h
/-- What is opened: the other file, if it is a whole rewrite, and else f. -/
theorem Settled.pick (h : Settled D f g R K) : ∃ b, (D.file (oth f) = rwB (g + 1) K ∧ pick D = ⟨⟨oth f, g + 1, K, D.powers, false, (D.file (oth f)).length⟩, false⟩) ∨ ((∀ n, NotBetter (lookL ((D.file (oth f)).take n)) g) ∧ ws.pick D = ⟨⟨f, g, R, D.powers, false, (D.file f).length⟩, b⟩) := by
  obtain ⟨b, hb⟩ := h.says
  refine ⟨b, ?_⟩
  rcases h.other with ho | ho
  · have := ho (D.file (oth f)).length
    rw [List.take_length] at this
    exact .inr ⟨ho, pick_best h.file h.g1 hb this⟩
  · refine .inl ⟨ho, ?_⟩
    refine pick_best (oth_in f) (by have := h.g1; omega) (by rw [ho]; exact look_new h.g1 h.g2 h.okK) ?_
    rw [(oth_ne h.file).2]
    intro _
    rw [hb]
    show g < g + 1
    omega
theorem may_open (hR : Recs R) {X : WS} (h : X.life = D.powers) (hd : X.done = false) : mayE X D R = 0 := by
  have ho : X.over D = false := by unfold WS.over; rw [hd, h]; simp
  have ht : ¬ tooLong R := fun ⟨r, hr, hl⟩ => by have := (hR r hr).2; omega
  unfold mayE
  rw [ho, if_neg (by decide), if_neg ht]
/-- What is read when nothing fails. -/
theorem Settled.read (h : Settled D f g R K) (ha : D.arms = -1) : (openO D).e = 0 ∧ ((openO D).X.recs = R ∨ ((openO D).X.recs = K ∧ D.file (oth f) = rwB (g + 1) K)) := by
  obtain ⟨b, h1 | h1⟩ := h.pick
  · unfold openO
    rw [if_neg (by rw [h.off]; decide), h1.2]
    exact ⟨rfl, .inr ⟨rfl, h1.1⟩⟩
  · unfold openO
    rw [if_neg (by rw [h.off]; decide), h1.2]
    rcases b with _ | _
    · exact ⟨rfl, .inl rfl⟩
    · dsimp only
      rw [if_pos rfl]
      have hc : Calm D := ⟨h.off, ha⟩
      have hm := may_open (D := D) h.okR (X := ⟨f, g, R, D.powers, false, (D.file f).length⟩) rfl rfl
      have hf : rwF ⟨f, g, R, D.powers, false, (D.file f).length⟩ = oth f := rfl
      have hoi := oth_in f
      obtain ⟨c1, c2⟩ := hc.clear hoi
      have hc2 : Calm (D.clearS (oth f)) := by rw [c2]; exact hc.step.setFile.setLasts
      have hcf := clear_file c1
      have hfit := h.fit
      obtain ⟨a1, a2⟩ := hc2.app hoi (l := rwB (g + 1) R) (by rw [hcf]; simpa using hfit)
      have hc3 : Calm ((D.clearS (oth f)).appS (oth f) (rwB (g + 1) R)) := by rw [a2]; exact hc2.step.setFile
      obtain ⟨s1, s2⟩ := hc3.sync hoi
      have hg2 := h.g2
      have hgg : ¬ (4611686018427387904 ≤ (⟨f, g, R, D.powers, false, (D.file f).length⟩ : WS).gen + 1) := by show ¬ (4611686018427387904 ≤ g + 1); omega
      unfold rewriteO
      rw [if_neg (by omega), if_neg hgg, hf, if_neg (by omega), if_neg (by dsimp only; omega), if_neg (by dsimp only; omega)]
      exact ⟨rfl, .inl rfl⟩
/-- Behind an opening that may fail at any step, and one more power, it is settled again, with the same records. -/
theorem Settled.again (h : Settled D f g R K) (hs : D.stepped ≤ 999000) (hp : D.powers ≤ 999000) (k : Int) (hk : -9223372036854775808 ≤ k ∧ k ≤ 9223372036854775807) (more : List Int) :
    ∃ K', Settled ((openO (D.armS k)).D.powS more) f g R K' ∧ (K' = R ∨ (K' = K ∧ (((openO (D.armS k)).D.powS more).file (oth f) = rwB (g + 1) K' → D.file (oth f) = rwB (g + 1) K))) := by
  have hA : Settled (D.armS k) f g R K := ⟨h.good.arm hk, h.off, h.file, h.g1, h.g2, h.okR, h.okK, h.fit, h.says, h.last, h.other, h.olast⟩
  obtain ⟨b, h1 | h1⟩ := hA.pick
  · have e : openO (D.armS k) = ⟨0, ⟨oth f, g + 1, K, (D.armS k).powers, false, ((D.armS k).file (oth f)).length⟩, D.armS k⟩ := by
      unfold openO
      rw [if_neg (by rw [hA.off]; decide), h1.2]
      rfl
    rw [e]
    obtain ⟨p1, p2⟩ := pow_all hA.good more h.file h.last
    obtain ⟨q1, q2⟩ := pow_all hA.good more (oth_in f) h.olast
    refine ⟨K, ⟨hA.good.pow (by show D.powers ≤ 1000000; omega) more, rfl, h.file, h.g1, h.g2, h.okR, h.okK, h.fit, ?_, p2, ?_, q2⟩, .inr ⟨rfl, fun _ => h1.1⟩⟩
    · obtain ⟨b, hb⟩ := h.says
      exact ⟨b, by dsimp only; rw [p1]; exact hb⟩
    · dsimp only; rw [q1]; exact h.other
  · rcases b with _ | _
    · have e : openO (D.armS k) = ⟨0, ⟨f, g, R, (D.armS k).powers, false, ((D.armS k).file f).length⟩, D.armS k⟩ := by
        unfold openO
        rw [if_neg (by rw [hA.off]; decide), h1.2]
        rfl
      rw [e]
      obtain ⟨p1, p2⟩ := pow_all hA.good more h.file h.last
      obtain ⟨q1, q2⟩ := pow_all hA.good more (oth_in f) h.olast
      refine ⟨K, ⟨hA.good.pow (by show D.powers ≤ 1000000; omega) more, rfl, h.file, h.g1, h.g2, h.okR, h.okK, h.fit, ?_, p2, ?_, q2⟩, .inr ⟨rfl, fun hh => ?_⟩⟩
      · obtain ⟨b, hb⟩ := h.says
        exact ⟨b, by dsimp only; rw [p1]; exact hb⟩
      · dsimp only; rw [q1]; exact h.other
      · dsimp only at hh; rw [q1] at hh; exact hh
    · have e : openO (D.armS k) = rewriteO ⟨f, g, R, (D.armS k).powers, false, ((D.armS k).file f).length⟩ (D.armS k) R := by
        unfold openO
        rw [if_neg (by rw [hA.off]; decide), h1.2]
        rfl
      obtain ⟨⟨l1, l2⟩, l3⟩ := rewrite_leaves ⟨f, g, R, (D.armS k).powers, false, ((D.armS k).file f).length⟩ (D.armS k) R h.file
      obtain ⟨n1, n2, n3⟩ := rewrite_near ⟨f, g, R, (D.armS k).powers, false, ((D.armS k).file f).length⟩ (D.armS k) R hA.good hs (fun r hr => (h.okR r hr).1)
      rw [← e] at l1 l2 l3 n1 n3
      dsimp only at l1 l2 l3
      have hlf : (openO (D.armS k)).D.lasts f = ((openO (D.armS k)).D.file f).length := by rw [l1, l2]; exact h.last
      obtain ⟨p1, p2⟩ := pow_all n1 more h.file hlf
      obtain ⟨c, c1, c2, c3⟩ := pow_file n1 more (oth_in f)
      have hg1 := h.g1
      have hg2 := h.g2
      have hO : Other ((openO (D.armS k)).D.file (oth f)) g R := by
        rcases l3 with l3 | l3 | l3
        · rw [l3]; exact .inl h1.1
        · rw [l3]; exact Other.empty g R
        · rw [l3]; exact .inr rfl
      refine ⟨R, ⟨n1.pow (by rw [n3]; show D.powers ≤ 1000000; omega) more, rfl, h.file, h.g1, h.g2, h.okR, h.okR, h.fit, ?_, p2, ?_, c3⟩, .inl rfl⟩
      · obtain ⟨b, hb⟩ := h.says
        exact ⟨b, by rw [p1, l1]; exact hb⟩
      · rw [c2]; exact hO.cut hg1 (by omega) h.okR c
end
/-- A log's disk as it may lie when the power fails: L was rewritten, M appended, s of them are safe; K: what a rewrite that failed was to leave. -/
structure Crash (D : DS) (f g : Int) (L M : List (List Int)) (s : Nat) (K : List (List Int)) : Prop where
  good : D.Good
  file : f = 0 ∨ f = 1
  g1 : 1 ≤ g
  g2 : g + 2 < 4611686018427387904
  okL : Recs L
  okM : Recs M
  okK : Recs K
  fit : (rwB (g + 1) (L ++ M)).length ≤ 4194304
  has : D.file f = rwB g L ++ (M.map recR).flatten
  s1 : s ≤ M.length
  last : (rwB g L ++ ((M.take s).map recR).flatten).length ≤ D.lasts f
  other : Other (D.file (oth f)) g K
theorem Recs.append {L M : List (List Int)} (hL : Recs L) (hM : Recs M) : Recs (L ++ M) := fun r hr => by
  rcases List.mem_append.1 hr with h | h
  · exact hL r h
  · exact hM r h
theorem Recs.take {L : List (List Int)} (hL : Recs L) (j : Nat) : Recs (L.take j) := fun r hr => hL r (List.mem_of_mem_take hr)
theorem rwB_take (g : Int) (L M : List (List Int)) (j : Nat) : (rwB g (L ++ M.take j)).length ≤ (rwB g (L ++ M)).length := by
  rw [rwB_len, rwB_len, List.length_append, List.length_append, List.flatten_append, List.flatten_append, List.length_append, List.length_append]
  have h1 : (M.take j).length ≤ M.length := by rw [List.length_take]; omega
  have h2 : (M.take j).flatten.length ≤ M.flatten.length := by
    conv => rhs; rw [← List.take_append_drop j M, List.flatten_append, List.length_append]
    omega
  omega
theorem Crash.settled {D : DS} {f g : Int} {L M K : List (List Int)} {s : Nat} (h : Crash D f g L M s K) (hp : D.powers ≤ 999000) (keep : List Int) :
    ∃ j, s ≤ j ∧ j ≤ M.length ∧ Settled (D.powS keep) f g (L ++ M.take j) K ∧ ((D.powS keep).file (oth f) = rwB (g + 1) K → D.file (oth f) = rwB (g + 1) K ∨ (∀ n, NotBetter (lookL ((D.file (oth f)).take n)) g)) := by
  obtain ⟨c, c1, c2, c3⟩ := pow_file h.good keep h.file
  obtain ⟨d, d1, d2, d3⟩ := pow_file h.good keep (oth_in f)
  have hg1 := h.g1
  have hg2 := h.g2
  have hlast := h.last
  obtain ⟨b, j, j1, j2, j3⟩ := look_log_cut h.g1 (by omega) h.okL h.okM c (by rw [List.length_append] at hlast; omega)
  refine ⟨j, j3 s h.s1 (by omega), j1, ⟨h.good.pow (by omega) keep, rfl, h.file, h.g1, h.g2, h.okL.append (h.okM.take j), h.okK, Nat.le_trans (rwB_take _ _ _ _) h.fit, ⟨b, by rw [c2, h.has]; exact j2⟩, c3, by rw [d2]; exact h.other.cut hg1 (by omega) h.okK d, d3⟩, fun _ => ?_⟩
  rcases h.other with ho | ho
  · exact .inr ho
  · exact .inl ho
/-- What is read in the end. -/
theorem Crash.reads {D : DS} {f g : Int} {L M K : List (List Int)} {s : Nat} (h : Crash D f g L M s K) (hs : D.stepped ≤ 998000) (hp : D.powers ≤ 998000) (keep : List Int) (k : Int) (hk : -9223372036854775808 ≤ k ∧ k ≤ 9223372036854775807) (more : List Int) :
    (openO ((openO ((D.powS keep).armS k)).D.powS more)).e = 0 ∧
    ((∃ j, s ≤ j ∧ j ≤ M.length ∧ (openO ((openO ((D.powS keep).armS k)).D.powS more)).X.recs = L ++ M.take j) ∨
     ((openO ((openO ((D.powS keep).armS k)).D.powS more)).X.recs = K ∧ D.file (oth f) = rwB (g + 1) K)) := by
  obtain ⟨j, j1, j2, hS, ho⟩ := h.settled (by omega) keep
  obtain ⟨K', hS', hK'⟩ := hS.again (by show D.stepped ≤ 999000; omega) (by show D.powers + 1 ≤ 999000; omega) k hk more
  obtain ⟨e, hr⟩ := hS'.read rfl
  refine ⟨e, ?_⟩
  rcases hr with hr | ⟨hr, hw⟩
  · exact .inl ⟨j, j1, j2, hr⟩
  · rcases hK' with rfl | ⟨rfl, hb⟩
    · exact .inl ⟨j, j1, j2, hr⟩
    · have hw2 := hb hw
      rcases ho hw2 with h3 | h3
      · exact .inr ⟨hr, h3⟩
      · exfalso
        obtain ⟨d, d1, d2, d3⟩ := pow_file h.good keep (oth_in f)
        have := h3 d
        rw [← d2, hw2] at this
        have hn := look_new h.g1 h.g2 h.okK
        have h4 := this (by rw [hn])
        rw [hn] at h4
        have h5 : g + 1 < g := h4
        omega
end Go.Proofs.Ytafdgibkhefplaa.ws

/- Plain numbers for files that are written by hand: which one is picked, how it goes on from there, and what the last generation is told. It speaks of no program. -/
namespace Go.Proofs.Ytafdgibkhefplaa.ws
open Go.Proofs.Ytafdgibkhefplaa.nums Go.Proofs.Ytafdgibkhefplaa.crc Go.Proofs.Ytafdgibkhefplaa.rec_ Go.Proofs.Ytafdgibkhefplaa.ds
set_option linter.unusedVariables false

theorem look_whole {g : Int} {L : List (List Int)} {t : List Int} (h1 : 1 ≤ g) (h2 : g < 4611686018427387904) (hL : Recs L) (hY : Byt t) (ht : nextE t 0 ≠ 0) : lookL (rwB g L ++ t) = ⟨true, decide (t ≠ []), g, L⟩ := by
  have h := lookL_log (M := []) h1 h2 hL recs_nil hY ht
  simpa using h
/-- A log whose file is just a rewrite of R. -/
structure At (X : WS) (D : DS) (R : List (List Int)) : Prop where
  calm : Calm D
  good : D.Good
  steps : D.stepped ≤ 900
  powers : D.powers = 0
  file : X.file = 0 ∨ X.file = 1
  g1 : 1 ≤ X.gen
  g2 : X.gen < 4611686018427387904
  okR : Recs R
  has : D.file X.file = rwB X.gen R
  recs : X.recs = R
  done : X.done = false
  life : X.life = 0
  small : (rwB X.gen R).length ≤ 8000
  fit : Fit X D
section
variable {X : WS} {D : DS} {R : List (List Int)}
theorem At.may (h : At X D R) {K : List (List Int)} (hK : Recs K) : mayE X D K = 0 := may_open hK (h.life.trans h.powers.symm) h.done
theorem rwB_same (g g' : Int) (L : List (List Int)) : (rwB g L).length = (rwB g' L).length := by rw [rwB_len, rwB_len]
/-- A rewrite of the same. -/
theorem rewrite_calm {f g : Int} {n : Nat} (hc : Calm D) (hG : D.Good) (hs : D.stepped ≤ 890) (hp : D.powers = 0) (hf : f = 0 ∨ f = 1) (g1 : 1 ≤ g) (g2 : g + 1 < 4611686018427387904) (hR : Recs R) (hl : (rwB g R).length ≤ 8000) (hF : Fit ⟨f, g, R, 0, false, n⟩ D) :
    (rewriteO ⟨f, g, R, 0, false, n⟩ D R).e = 0 ∧ At (rewriteO ⟨f, g, R, 0, false, n⟩ D R).X (rewriteO ⟨f, g, R, 0, false, n⟩ D R).D R ∧ (rewriteO ⟨f, g, R, 0, false, n⟩ D R).X.gen = g + 1 ∧ (rewriteO ⟨f, g, R, 0, false, n⟩ D R).X.file = oth f ∧
    (rewriteO ⟨f, g, R, 0, false, n⟩ D R).D.lasts f = D.lasts f ∧ (rewriteO ⟨f, g, R, 0, false, n⟩ D R).D.stepped ≤ D.stepped + 3 := by
  have hY : ∀ r ∈ R, Byt r := fun r hr => (hR r hr).1
  have hN := rewrite_near ⟨f, g, R, 0, false, n⟩ D R hG (by omega) hY
  have hFF := hF.rewrite hY
  have hlv := (rewrite_leaves ⟨f, g, R, 0, false, n⟩ D R hf).1.2
  have hm : mayE ⟨f, g, R, 0, false, n⟩ D R = 0 := may_open hR hp.symm rfl
  have hrf : rwF ⟨f, g, R, 0, false, n⟩ = oth f := rfl
  have hoi := oth_in f
  have hlen := rwB_same (g + 1) g R
  obtain ⟨c1, c2⟩ := hc.clear hoi
  have hc2 : Calm (D.clearS (oth f)) := by rw [c2]; exact hc.step.setFile.setLasts
  have hcf := clear_file c1
  obtain ⟨a1, a2⟩ := hc2.app hoi (l := rwB (g + 1) R) (by rw [hcf]; simp; omega)
  have hc3 : Calm ((D.clearS (oth f)).appS (oth f) (rwB (g + 1) R)) := by rw [a2]; exact hc2.step.setFile
  have haf := app_file a1
  rw [hcf, List.nil_append] at haf
  obtain ⟨s1, s2⟩ := hc3.sync hoi
  have hgg : ¬ (4611686018427387904 ≤ (⟨f, g, R, 0, false, n⟩ : WS).gen + 1) := by show ¬ (4611686018427387904 ≤ g + 1); omega
  have e : rewriteO ⟨f, g, R, 0, false, n⟩ D R = ⟨0, ⟨oth f, g + 1, R, 0, false, (rwB (g + 1) R).length⟩, ((D.clearS (oth f)).appS (oth f) (rwB (g + 1) R)).syncS (oth f)⟩ := by
    unfold rewriteO
    rw [if_neg (by omega), if_neg hgg, hrf, if_neg (by omega), if_neg (by dsimp only; omega), if_neg (by dsimp only; omega)]
  rw [e] at hN hFF hlv ⊢
  refine ⟨rfl, ⟨by rw [s2]; exact hc3.step.setLasts, hN.1, ?_, hN.2.2.trans hp, hoi, ?_, g2, hR, (sync_file _ _ _).trans haf, rfl, rfl, rfl, ?_, hFF⟩, rfl, rfl, hlv, hN.2.1⟩
  · have := hN.2.1; dsimp only at this ⊢; omega
  · show 1 ≤ g + 1; omega
  · show (rwB (g + 1) R).length ≤ 8000; omega
theorem At.shape (h : At X D R) : X = ⟨X.file, X.gen, R, 0, false, X.size⟩ := by
  have h1 := h.recs
  have h2 := h.done
  have h3 := h.life
  rcases X with ⟨f, g, r, l, d, n⟩
  dsimp only at *
  subst h1 h2 h3
  rfl
theorem At.rewrite (h : At X D R) (hs : D.stepped ≤ 890) (g2 : X.gen + 1 < 4611686018427387904) : (rewriteO X D R).e = 0 ∧ At (rewriteO X D R).X (rewriteO X D R).D R ∧ (rewriteO X D R).X.gen = X.gen + 1 ∧ (rewriteO X D R).D.stepped ≤ D.stepped + 3 := by
  have hF := h.fit
  have hsh := h.shape
  rw [hsh] at hF
  obtain ⟨k1, k2, k3, k4, k5, k6⟩ := rewrite_calm (n := X.size) h.calm h.good hs h.powers h.file h.g1 g2 h.okR h.small hF
  rw [← hsh] at k1 k2 k3 k6
  exact ⟨k1, k2, k3, k6⟩
/-- The last generation is told. -/
theorem At.full (h : At X D R) (g2 : 4611686018427387904 ≤ X.gen + 1) : rewriteO X D R = ⟨8, X, D⟩ := by
  unfold rewriteO
  rw [if_neg (by rw [h.may h.okR]; decide), if_pos g2]
theorem At.over (h : At X D R) : X.over D = false := by unfold WS.over; rw [h.done, h.life, h.powers]; rfl
theorem At.append (h : At X D R) {r : List Int} (hr : Byt r) (hl : r.length ≤ 1000) : (appendO X D r).e = 0 ∧ (appendO X D r).X.file = X.file ∧ (appendO X D r).X.gen = X.gen ∧ (appendO X D r).X.recs = R ++ [r] ∧ (appendO X D r).X.done = false ∧ (appendO X D r).X.life = 0 ∧
    Calm (appendO X D r).D ∧ (appendO X D r).D.Good ∧ (appendO X D r).D.stepped ≤ D.stepped + 3 ∧ (appendO X D r).D.powers = 0 ∧ (appendO X D r).D.file X.file = rwB X.gen R ++ recR r ∧ (appendO X D r).D.lasts (oth X.file) = D.lasts (oth X.file) ∧ Fit (appendO X D r).X (appendO X D r).D := by
  have hN := append_near X D r h.good (by have := h.steps; omega) hr
  have hF := h.fit.append (r := r) hr (by rcases h.file with e | e <;> rw [e] <;> decide)
  have hrl : (recR r).length = 9 + r.length := by unfold recR; rw [rec_.recB_length, List.length_cons]; omega
  have hm := h.may (K := [r]) (fun t ht => by rw [List.mem_singleton] at ht; subst ht; exact ⟨hr, by omega⟩)
  have hsm := h.small
  obtain ⟨a1, a2⟩ := h.calm.app h.file (l := recR r) (by rw [h.has]; omega)
  have e : appendO X D r = ⟨0, { X with recs := X.recs ++ [r], size := X.size + (recR r).length }, D.appS X.file (recR r)⟩ := by
    unfold appendO
    rw [if_neg (by omega), if_neg (by omega)]
  rw [e] at hN hF ⊢
  refine ⟨rfl, rfl, rfl, by dsimp only; rw [h.recs], h.done, h.life, by rw [a2]; exact h.calm.step.setFile, hN.1, hN.2.1, hN.2.2.trans h.powers, ?_, ?_, hF⟩
  · dsimp only; rw [a2, setFile_file _ _ h.file, h.has]
  · dsimp only; rw [a2, setFile_lasts, step_lasts']
end
/-- It is synced, the power fails, and it is opened: all is there, where nothing of the other file was durable. -/
theorem sync_again {X : WS} {D : DS} {g : Int} {R : List (List Int)} {r : List Int} (hc : Calm D) (hG : D.Good) (hs : D.stepped ≤ 950) (hp : D.powers = 0) (hf : X.file = 0 ∨ X.file = 1) (g1 : 1 ≤ g) (g2 : g < 4611686018427387904) (hR : Recs R) (hr : Recs [r])
    (hd : X.done = false) (hl : X.life = 0) (has : D.file X.file = rwB g R ++ recR r) (ho : D.lasts (oth X.file) = 0) :
    (syncO X D).e = 0 ∧ (syncO X D).X = X ∧ (syncO X D).D.Good ∧ (syncO X D).D.stepped ≤ 960 ∧ (syncO X D).D.powers = 0 ∧ (openO ((syncO X D).D.powS [])).e = 0 ∧ (openO ((syncO X D).D.powS [])).X.recs = R ++ [r] := by
  have hN := sync_near X D hG (by omega)
  have hm : mayE X D [] = 0 := may_open recs_nil (hl.trans hp.symm) hd
  obtain ⟨s1, s2⟩ := hc.sync hf
  have e : syncO X D = ⟨0, X, D.syncS X.file⟩ := by
    unfold syncO
    rw [if_neg (by omega), if_neg (by omega)]
  rw [e] at hN ⊢
  have hoi := oth_in X.file
  have hfl : (D.syncS X.file).lasts X.file = ((D.syncS X.file).file X.file).length := by rw [sync_file, s2, setLasts_lasts _ _ hf]
  obtain ⟨p1, p2⟩ := pow_all hN.1 [] hf hfl
  have hol : (D.syncS X.file).lasts (oth X.file) = 0 := by rw [s2, setLasts_other _ _ hf hoi (oth_ne hf).1, step_lasts', ho]
  have hoe : ((D.syncS X.file).powS []).file (oth X.file) = [] := by
    rcases hoi with h0 | h0
    · rw [h0] at hol ⊢
      show (D.syncS X.file).a.take ((D.syncS X.file).la + min (DS.keepN [] 0) _) = []
      rw [show (D.syncS X.file).la = 0 from hol, show DS.keepN [] 0 = 0 from rfl]
      simp
    · rw [h0] at hol ⊢
      show (D.syncS X.file).b.take ((D.syncS X.file).lb + min (DS.keepN [] 1) _) = []
      rw [show (D.syncS X.file).lb = 0 from hol, show DS.keepN [] 1 = 0 from rfl]
      simp
  have hw := lookL_log (M := [r]) g1 g2 hR hr Byt.nil (show nextE [] 0 ≠ 0 by decide)
  have hfile : ((D.syncS X.file).powS []).file X.file = rwB g R ++ ([r].map recR).flatten ++ [] := by rw [p1, sync_file, has]; simp
  rw [← hfile] at hw
  have hpk := pick_best (D := (D.syncS X.file).powS []) hf g1 hw (by rw [hoe]; exact look_empty g)
  refine ⟨rfl, rfl, hN.1, by have := hN.2.1; dsimp only at this ⊢; omega, hN.2.2.trans hp, ?_⟩
  unfold openO
  rw [if_neg (by show ¬ (false = true); decide), hpk]
  dsimp only
  rw [if_neg (by simp)]
  exact ⟨rfl, rfl⟩
/-- Two files by hand. -/
theorem pick_two {D : DS} {g h : Int} {a b : List (List Int)} {t : List Int} (g1 : 1 ≤ g) (g2 : g < 4611686018427387904) (h1 : 1 ≤ h) (h2 : h < 4611686018427387904) (ha : Recs a) (hb : Recs b) (hY : Byt t) (ht : nextE t 0 ≠ 0) (fa : D.a = rwB g a ++ t) (fb : D.b = rwB h b ++ t) :
    pick D = if g < h then ⟨⟨1, h, b, D.powers, false, D.b.length⟩, decide (t ≠ [])⟩ else ⟨⟨0, g, a, D.powers, false, D.a.length⟩, decide (t ≠ [])⟩ := by
  have ka := look_whole g1 g2 ha hY ht
  have kb := look_whole h1 h2 hb hY ht
  rw [← fa] at ka
  rw [← fb] at kb
  unfold pick Pick.more
  rw [ka, kb]
  dsimp only
  rw [if_pos (show true = true ∧ (WS.start D.powers).gen < g from ⟨rfl, by show (0 : Int) < g; omega⟩)]
  dsimp only
  by_cases hgh : g < h
  · rw [if_pos ⟨rfl, hgh⟩, if_pos hgh]
    rfl
  · rw [if_neg (fun k => hgh k.2), if_neg hgh]
    rfl
/-- One file by hand. -/
theorem pick_one {D : DS} {g : Int} {a : List (List Int)} {t : List Int} (g1 : 1 ≤ g) (g2 : g < 4611686018427387904) (ha : Recs a) (hY : Byt t) (ht : nextE t 0 ≠ 0) (fa : D.a = rwB g a ++ t) (fb : D.b = []) :
    pick D = ⟨⟨0, g, a, D.powers, false, D.a.length⟩, decide (t ≠ [])⟩ := by
  have ka := look_whole g1 g2 ha hY ht
  rw [← fa] at ka
  exact pick_best (f := 0) (.inl rfl) g1 ka (by show NotBetter (lookL D.b) g; rw [fb]; exact look_empty g)
/-- A disk on which files lie that were written by hand and never synced. -/
structure Hand (D : DS) : Prop where
  calm : Calm D
  good : D.Good
  steps : D.stepped ≤ 2
  powers : D.powers = 0
  la : D.la = 0
  lb : D.lb = 0
theorem Hand.lasts {D : DS} (h : Hand D) {f : Int} (hf : f = 0 ∨ f = 1) : D.lasts f = 0 := by
  rcases hf with rfl | rfl
  · exact h.la
  · exact h.lb
theorem hand_one {A : List Int} (hA : Byt A) (hl : A.length ≤ 8000) : DS.fresh.appE 0 A = 0 ∧ Hand (DS.fresh.appS 0 A) ∧ (DS.fresh.appS 0 A).a = A ∧ (DS.fresh.appS 0 A).b = [] ∧ (DS.fresh.appS 0 A).stepped ≤ 1 := by
  have hc : Calm DS.fresh := ⟨rfl, rfl⟩
  obtain ⟨e1, e2⟩ := hc.app (f := 0) (.inl rfl) (l := A) (by show 0 + A.length ≤ 4194304; omega)
  have hG := DS.Good.fresh.app (f := 0) (by decide) hA
  rw [e2] at hG ⊢
  exact ⟨e1, ⟨hc.step.setFile, hG, by show DS.fresh.step.stepped ≤ 2; decide, rfl, rfl, rfl⟩, rfl, rfl, by show DS.fresh.step.stepped ≤ 1; decide⟩
theorem hand_two {A B : List Int} (hA : Byt A) (hB : Byt B) (hl : A.length ≤ 8000) (hm : B.length ≤ 8000) : (DS.fresh.appS 0 A).appE 1 B = 0 ∧ Hand ((DS.fresh.appS 0 A).appS 1 B) ∧ ((DS.fresh.appS 0 A).appS 1 B).a = A ∧ ((DS.fresh.appS 0 A).appS 1 B).b = B := by
  obtain ⟨_, h, ha, hb, hs⟩ := hand_one hA hl
  obtain ⟨e1, e2⟩ := h.calm.app (f := 1) (.inr rfl) (l := B) (by show (DS.fresh.appS 0 A).b.length + B.length ≤ 4194304; rw [hb]; simp; omega)
  have hG := h.good.app (f := 1) (by omega) hB
  have hst : (DS.fresh.appS 0 A).step.stepped ≤ (DS.fresh.appS 0 A).stepped + 1 := (DS.Near.step _).1
  have hpw := step_powers (DS.fresh.appS 0 A)
  have hsl0 := step_lasts' (DS.fresh.appS 0 A) 0
  have hsl1 := step_lasts' (DS.fresh.appS 0 A) 1
  have hsf0 := step_file' (DS.fresh.appS 0 A) 0
  have hfile : (DS.fresh.appS 0 A).file 1 = [] := hb
  rw [e2] at hG ⊢
  rw [hfile] at hG ⊢
  refine ⟨e1, ⟨h.calm.step.setFile, hG, ?_, ?_, ?_, ?_⟩, ?_, rfl⟩
  · show (DS.fresh.appS 0 A).step.stepped ≤ 2; omega
  · exact hpw.trans h.powers
  · exact hsl0.trans h.la
  · exact hsl1.trans h.lb
  · exact hsf0.trans ha
/-- What opening one that is whole, or spoilt behind its records, comes to. -/
theorem hand_open {D : DS} (h : Hand D) {f g : Int} {R : List (List Int)} {t : List Int} (hf : f = 0 ∨ f = 1) (g1 : 1 ≤ g) (g2 : g < 4611686018427387904) (hR : Recs R) (hl : (rwB g R).length ≤ 8000) (fa : D.file f = rwB g R ++ t)
    (hp : pick D = ⟨⟨f, g, R, D.powers, false, (D.file f).length⟩, decide (t ≠ [])⟩) :
    (t = [] ∨ g + 1 < 4611686018427387904 → (openO D).e = 0 ∧ At (openO D).X (openO D).D R ∧ (openO D).X.recs = R ∧ (openO D).X.gen = (if t = [] then g else g + 1) ∧ (openO D).D.lasts (oth (openO D).X.file) = 0 ∧ (openO D).D.stepped ≤ 5) ∧
    (t ≠ [] → 4611686018427387904 ≤ g + 1 → (openO D).e = 8) := by
  have hst := h.steps
  have hF0 := Fit.open_ h.good
  have hpw := h.powers
  by_cases ht : t = []
  · subst ht
    have e : openO D = ⟨0, ⟨f, g, R, 0, false, (D.file f).length⟩, D⟩ := by
      unfold openO
      rw [if_neg (by rw [h.calm.off]; decide), hp]
      dsimp only
      rw [if_neg (by simp), hpw]
    rw [e] at hF0 ⊢
    refine ⟨fun _ => ⟨rfl, ⟨h.calm, h.good, by dsimp only; omega, hpw, hf, g1, g2, hR, by dsimp only; rw [fa, List.append_nil], rfl, rfl, rfl, hl, hF0⟩, rfl, by rw [if_pos rfl], h.lasts (oth_in f), by dsimp only; omega⟩, fun hn => absurd rfl hn⟩
  · have e : openO D = rewriteO ⟨f, g, R, 0, false, (D.file f).length⟩ D R := by
      unfold openO
      rw [if_neg (by rw [h.calm.off]; decide), hp]
      dsimp only
      rw [if_pos (by simpa using ht), hpw]
    have hFp : Fit ⟨f, g, R, 0, false, (D.file f).length⟩ D := by
      have := Fit.pick h.good
      rw [hp, hpw] at this
      exact this
    constructor
    · intro hg
      have hg' : g + 1 < 4611686018427387904 := by rcases hg with hg | hg; exact absurd hg ht; exact hg
      obtain ⟨k1, k2, k3, k4, k5, k6⟩ := rewrite_calm (n := (D.file f).length) h.calm h.good (by omega) hpw hf g1 hg' hR hl hFp
      rw [← e] at k1 k2 k3 k4 k5 k6
      exact ⟨k1, k2, k2.recs, by rw [if_neg ht]; exact k3, by rw [k4, (oth_ne hf).2, k5]; exact h.lasts hf, by omega⟩
    · intro _ hg
      rw [e]
      unfold rewriteO
      rw [if_neg (by rw [may_open hR hpw.symm rfl]; decide), if_pos hg]
end Go.Proofs.Ytafdgibkhefplaa.ws

/- Plain words on byte slices in memory (what a slice reads as; what a call owns) and laws of make, copy and append for them. Conditions: those that each theorem names. -/
namespace Go.Proofs.Ytafdgibkhefplaa.kit
open Go.RowKit

/-- The cells of bytes. -/
def u8s (l : List Int) : List Value := l.map (Value.int .u8)
theorem u8s_length (l : List Int) : (u8s l).length = l.length := by simp [u8s]
theorem u8s_append (l m : List Int) : u8s (l ++ m) = u8s l ++ u8s m := by simp [u8s]
theorem u8s_one (l : List Int) : ∀ u ∈ u8s l, u.oneCell' = true := ints_oneCell .u8 l
theorem u8s_getElem? (l : List Int) (j : Nat) (h : j < l.length) : (u8s l)[j]? = some (.int .u8 (l.getD j 0)) := by
  simp [u8s, List.getD, h]
theorem u8s_inj {l m : List Int} (h : u8s l = u8s m) : l = m := by
  have h' := congrArg (List.map intOf) h
  simpa [u8s, Function.comp_def, intOf] using h'

/-- The slice at address A with n elements reads as the bytes l and lies below block B. -/
def Rd (w : World) (B : Nat) (A : Option Addr) (n : Nat) (l : List Int) : Prop :=
  l.length = n ∧ (0 < n → ∃ b o, A = some ⟨b, o, none⟩ ∧ b < B ∧ ∀ j, j < n → w.cell? ⟨b, o + j, none⟩ = some (.int .u8 (l.getD j 0)))

section
variable {w w' : World} {B B' n : Nat} {A : Option Addr} {l : List Int}
theorem Rd.len (h : Rd w B A n l) : l.length = n := h.1
theorem Rd.keep (h : Rd w B A n l) (hk : ∀ b o, b < B → w'.cell? ⟨b, o, none⟩ = w.cell? ⟨b, o, none⟩) : Rd w' B A n l :=
  ⟨h.1, fun hn => by
    obtain ⟨b, o, e, hb, hc⟩ := h.2 hn
    exact ⟨b, o, e, hb, fun j hj => (hk b (o + j) hb).trans (hc j hj)⟩⟩
theorem Rd.below (h : Rd w B A n l) (hb : Below B w w') : Rd w' B A n l := h.keep fun b o hlt => hb.cell (p := ⟨b, o, none⟩) hlt
theorem Rd.more (h : Rd w B A n l) (hB : B ≤ B') : Rd w B' A n l :=
  ⟨h.1, fun hn => by
    obtain ⟨b, o, e, hb, hc⟩ := h.2 hn
    exact ⟨b, o, e, by omega, hc⟩⟩
theorem Rd.on (h : Rd w B A n l) (hb : Below B w w') (hB : B ≤ B') : Rd w' B' A n l := (h.below hb).more hB
theorem Rd.drew (h : Rd w B A n l) : Rd w.drew B A n l := h
theorem Rd.alloc (h : Rd w B A n l) (hB : B ≤ w.heap.size) (o : Obj) : Rd (w.alloc o) B A n l := h.below ((Below.refl _ _).alloc hB o)
theorem Rd.cut {b o p q : Nat} (h : Rd w B (some ⟨b, o, none⟩) n l) (hp : p ≤ q) (hq : q ≤ n) : Rd w B (some ⟨b, o + p, none⟩) (q - p) ((l.drop p).take (q - p)) := by
  refine ⟨by rw [List.length_take, List.length_drop, h.1]; omega, fun hn => ?_⟩
  obtain ⟨b', o', e, hb, hc⟩ := h.2 (by omega)
  simp only [Option.some.injEq, Addr.mk.injEq, and_true] at e
  obtain ⟨rfl, rfl⟩ := e
  refine ⟨b, o + p, rfl, hb, fun j hj => ?_⟩
  rw [Nat.add_assoc, hc (p + j) (by omega), List.getD_eq_getElem?_getD, List.getD_eq_getElem?_getD, List.getElem?_take, if_pos hj, List.getElem?_drop]
theorem Rd.nil (w : World) (B : Nat) (A : Option Addr) : Rd w B A 0 [] := ⟨rfl, fun h => absurd h (by omega)⟩
/-- The cells of a reading, for the laws of copy and append. -/
theorem Rd.pos (h : Rd w B A n l) : 0 < (u8s l).length → ∃ ad, A = some ad ∧ ∀ j u, (u8s l)[j]? = some u → w.cell? (ad.add j) = some u := by
  intro hl
  rw [u8s_length, h.1] at hl
  obtain ⟨b, o, e, _, hc⟩ := h.2 hl
  refine ⟨⟨b, o, none⟩, e, fun j u hu => ?_⟩
  have hj : j < l.length := by
    have := (List.getElem?_eq_some_iff.1 hu).1
    simpa [u8s_length] using this
  rw [u8s_getElem? l j hj] at hu
  obtain rfl := Option.some.inj hu
  rw [Addr.add_lit]
  exact hc j (by rw [← h.1]; exact hj)
end

/-- The value v is a slice that the call has made (from block 'base' on), with the bytes l; E: the element type's number. -/
def Own (E : TypeId) (w : World) (base : Nat) (v : Value) (l : List Int) : Prop := w.ownsRow base E 1 v l.length (u8s l)

section
variable {E : TypeId} {w w' : World} {base base' : Nat} {v : Value} {l : List Int}
theorem Own.nil (E : TypeId) (w : World) (base : Nat) : Own E w base (.slice none 0 0) [] := World.ownsRow_nil w base E 1
theorem Own.lt (h : Own E w base v l) : ∀ k, v.ownBlock = some k → base ≤ k ∧ k < w.heap.size := World.ownsRow.lt h
/-- What is owned is a slice, and reads. -/
theorem Own.slice (h : Own E w base v l) : ∃ A c, v = .slice A l.length c ∧ l.length ≤ c ∧ c ≤ maxLen ∧ Rd w w.heap.size A l.length l := by
  have h0 := h
  rcases h.2 with ⟨hv, hn⟩ | ⟨g, cap, cur, rfl, hb, hg, hnc, hcm, hcs, htake⟩
  · exact ⟨none, 0, by rw [hv, hn], by omega, by omega, rfl, fun hp => absurd hp (by omega)⟩
  · refine ⟨_, cap, rfl, hnc, hcm, rfl, fun _ => ⟨g, 0, rfl, (Array.getElem?_eq_some_iff.1 hg).1, fun j hj => ?_⟩⟩
    rw [Nat.zero_add, World.ownsRow.cellAt (show w.ownsRow base E 1 _ _ _ from h0) j (by omega), u8s_getElem? l j hj]
theorem Own.more (h : Own E w base v l) (hB : base' ≤ base) : Own E w base' v l := by
  refine ⟨h.1, ?_⟩
  rcases h.2 with hn | ⟨g, cap, cur, rfl, hb, r⟩
  · exact .inl hn
  · exact .inr ⟨g, cap, cur, rfl, by omega, r⟩
/-- What is owned stays so where nothing below the heap's size turns. -/
theorem Own.below (h : Own E w base v l) (hb : Below w.heap.size w w') : Own E w' base v l := by
  refine ⟨h.1, ?_⟩
  rcases h.2 with hn | ⟨g, cap, cur, rfl, hbg, hg, r⟩
  · exact .inl hn
  · exact .inr ⟨g, cap, cur, rfl, hbg, by rw [hb.block g (Array.getElem?_eq_some_iff.1 hg).1]; exact hg, r⟩
/-- What lies below B stays owned where nothing below B turns. -/
theorem Own.below' {B : Nat} (h : Own E w base v l) (hb : Below B w w') (hv : ∀ k, v.ownBlock = some k → k < B) : Own E w' base v l := by
  refine ⟨h.1, ?_⟩
  rcases h.2 with hn | ⟨g, cap, cur, rfl, hbg, hg, r⟩
  · exact .inl hn
  · exact .inr ⟨g, cap, cur, rfl, hbg, by rw [hb.block g (hv g rfl)]; exact hg, r⟩
end

/-- Block g is just the cells cs, of element type E, none frozen. -/
def Blk (E : TypeId) (w : World) (g : Nat) (cs : List Value) : Prop := w.heap[g]? = some (.cells cs.toArray E (0, 0))
/-- So many bytes 0. -/
def zeros (n : Nat) : List Value := List.replicate n (.int .u8 0)
theorem zeros_length (n : Nat) : (zeros n).length = n := by simp [zeros]

section
variable {E : TypeId} {w w' : World} {g : Nat} {cs : List Value}
theorem Blk.lt (h : Blk E w g cs) : g < w.heap.size := (Array.getElem?_eq_some_iff.1 h).1
theorem Blk.drew (h : Blk E w g cs) : Blk E w.drew g cs := h
theorem Blk.below {B : Nat} (h : Blk E w g cs) (hb : Below B w w') (hg : g < B) : Blk E w' g cs := (hb.block g hg).trans h
theorem Blk.alloc (h : Blk E w g cs) (o : Obj) : Blk E (w.alloc o) g cs := h.below ((Below.refl _ _).alloc (Nat.le_refl _) o) h.lt
theorem Blk.cell (h : Blk E w g cs) (j : Nat) : w.cell? ⟨g, j, none⟩ = cs[j]? := by
  rw [cell_of_row w g j _ E (0, 0) h]; simp
theorem Blk.frozen (h : Blk E w g cs) (j : Nat) : w.frozen? ⟨g, j, none⟩ = false := by
  unfold Blk at h; simp [World.frozen?, h]
theorem Blk.rd {l : List Int} {n : Nat} (h : Blk E w g cs) (ht : cs.take n = u8s l) (hn : l.length = n) {B : Nat} (hB : g < B) : Rd w B (some ⟨g, 0, none⟩) n l :=
  ⟨hn, fun _ => ⟨g, 0, rfl, hB, fun j hj => by
    rw [Nat.zero_add, h.cell j]
    have e : (cs.take n)[j]? = cs[j]? := by rw [List.getElem?_take, if_pos hj]
    rw [← e, ht, u8s_getElem? l j (by omega)]⟩⟩
theorem Blk.set_ (h : Blk E w g cs) (j : Nat) (u : Value) : Blk E (w.setCell ⟨g, j, none⟩ u) g (cs.set j u) := by
  unfold Blk at h ⊢
  simp [World.setCell, Array.getElem?_modify, h]
theorem Blk.far (h : Blk E w g cs) {p : Addr} (hp : g ≠ p.block) (u : Value) : Blk E (w.setCell p u) g cs := (Below.heap_setCell w p u g hp).trans h
end

theorem zeros_set (m : Nat) (x : Int) (r : List Value) : (zeros (m + 1) ++ r).set m (.int .u8 x) = zeros m ++ (.int .u8 x :: r) := by
  have h : zeros (m + 1) = zeros m ++ [.int .u8 0] := by unfold zeros; rw [List.replicate_succ']
  rw [h, List.append_assoc, List.set_append_right _ _ (by simp [zeros])]
  simp [zeros]
theorem zeros_get (m : Nat) (r : List Value) : (zeros (m + 1) ++ r)[m]? = some (.int .u8 0) := by
  rw [List.getElem?_append_left (by simp [zeros])]
  simp [zeros]
/-- 'make([]T, l, c)', both variables: a new block of c zero cells. The world behind it is a variable. -/
theorem wpList_make_room {P : Program} (w : World) {ops : Array Oper} {rest : List Oper} {o : Oper} {a : Act} {Q : Exit → Act → World → Prop}
    (hg : o.guard = none) (l c : Operand) (t : TypeId) (hop : o.op = Op.makeSlice t l c)
    (e : TypeId) (i : TypeInfo) (z : Value) (h1 : P.underlying t = some (.slice e)) (h2 : P.info? e = some i) (h3 : i.zero = some z) (h4 : i.size = 1) (hz : z.cells = #[z])
    (kl kc : IntKind) (L C : Int) (m n : Nat) (hl : a.eval l = .int kl L) (hc : a.eval c = .int kc C) (hL : L = (m : Int)) (hC : C = (n : Int)) (hmn : m ≤ n) (b2 : i.bytes * n ≤ 281474976710656) (b3 : n ≤ maxLen)
    (hK : ∀ w', Blk e w' w.heap.size (List.replicate n z) → Below w.heap.size w w' → Hid (w'.heap.size = w.heap.size + 1) →
      wpList P ops Q rest (a.put o.dst (.slice (some ⟨w.heap.size, 0, none⟩) m n)) w') :
    wpList P ops Q (o :: rest) a w := by
  refine wpList_plain hg fun K hK' => ?_
  have h63' : (n : Int) ≤ 9223372036854775807 := by
    have h := b3
    simp [maxLen] at h
    omega
  have hb' : (i.bytes : Int) * (n : Int) ≤ 281474976710656 := by
    have h : ((i.bytes * n : Nat) : Int) ≤ 281474976710656 := by omega
    rwa [Int.natCast_mul] at h
  have hrun := run_make (P := P) w t e i z h1 h2 h3 kl kc m n (by omega) (by omega) hb' h63'
  simp only [Int.toNat_natCast, h4, Nat.mul_one, hz] at hrun
  subst hL
  subst hC
  unfold Oper.wp
  simp [execOp, hop, hl, hc, hrun, Result.andThen]
  refine hK' _ _ (hK _ ?_ ((Below.refl _ _).alloc (Nat.le_refl _) _) ?_)
  · show (w.heap.push _)[w.heap.size]? = _
    rw [Array.getElem?_push, if_pos rfl]
    have e0 : (madeCells #[z] n) = (List.replicate n z).toArray := by
      rw [← toList_madeCells_one z n]
    rw [e0]
  · show (w.heap.push _).size = _
    simp

/-- The same for bytes. -/
theorem wpList_make_bytes {P : Program} (w : World) {ops : Array Oper} {rest : List Oper} {o : Oper} {a : Act} {Q : Exit → Act → World → Prop}
    (hg : o.guard = none) (l c : Operand) (t : TypeId) (hop : o.op = Op.makeSlice t l c)
    (e : TypeId) (h1 : P.underlying t = some (.slice e)) (h2 : (P.info? e).map (fun i => (i.zero, i.size, i.bytes)) = some (some (.int .u8 0), 1, 1))
    (kl kc : IntKind) (L C : Int) (m n : Nat) (hl : a.eval l = .int kl L) (hc : a.eval c = .int kc C) (hL : L = (m : Int)) (hC : C = (n : Int)) (hmn : m ≤ n) (b : n ≤ 140737488355328)
    (hK : ∀ w', Blk e w' w.heap.size (zeros n) → Below w.heap.size w w' → Hid (w'.heap.size = w.heap.size + 1) →
      wpList P ops Q rest (a.put o.dst (.slice (some ⟨w.heap.size, 0, none⟩) m n)) w') :
    wpList P ops Q (o :: rest) a w := by
  obtain ⟨i, hi, hz0, hz1, hz2⟩ := info_parts h2
  exact wpList_make_room w hg l c t hop e i (.int .u8 0) h1 hi hz0 hz1 rfl kl kc L C m n hl hc hL hC hmn (by rw [hz2]; omega) (by unfold maxLen; omega) hK

/-- 'copy(dst, src)': dst in a block that is known whole, src any slice of bytes that is no longer than dst. -/
theorem wpList_copy_rd {P : Program} {w : World} {ops : Array Oper} {rest : List Oper} {o : Oper} {a : Act} {Q : Exit → Act → World → Prop} (hgd : o.guard = none) (d s : Operand) (dT sT : TypeId)
    (ho : o.op = .call { callee := .builtin .copy, args := #[d, s], argTypes := #[dT, sT] }) (e : TypeId) (hu : P.underlying dT = some (.slice e)) (h2 : (P.info? e).map (fun i => (i.zero, i.size, i.bytes)) = some (some (.int .u8 0), 1, 1))
    (dLen dCap sLen sCap : Nat) (sp : Option Addr) (g off : Nat) (hd : a.eval d = .slice (some ⟨g, off, none⟩) dLen dCap) (hs : a.eval s = .slice sp sLen sCap)
    (cur : List Value) (E : TypeId) (hg : Blk E w g cur) (B : Nat) (l : List Int) (hR : Rd w B sp sLen l) (hn : sLen ≤ dLen) (hfit : off + sLen ≤ cur.length)
    (h : ∀ w', Blk E w' g (splice cur off (u8s l)) → Below g w w' → Hid (w'.heap.size = w.heap.size) → wpList P ops Q rest (a.put o.dst (goInt l.length)) w') :
    wpList P ops Q (o :: rest) a w := by
  obtain ⟨i, hi, hz0, hz1, hz2⟩ := info_parts h2
  have hlen : (u8s l).length = sLen := by rw [u8s_length, hR.1]
  have hsz : (P.info? e).map (·.size) = some 1 := by rw [hi]; simp [hz1]
  by_cases h0 : sLen = 0
  · have hl0 : l = [] := List.eq_nil_of_length_eq_zero (by rw [hR.1, h0])
    subst hl0
    refine wpList_copy_nothing hgd d s dT sT ho e hu hsz _ _ _ _ _ _ hd hs (by rw [h0]; simp) ?_
    exact h w (by simpa [splice, u8s] using hg) (Below.refl _ _) rfl
  · obtain ⟨ad, rfl, hsrc⟩ := hR.pos (by omega)
    refine wpList_copy_own hgd d s dT sT ho e hu hsz g off dLen dCap ad sLen sCap hd hs cur.toArray E hg (u8s l) (by rw [hlen]; exact (Nat.min_eq_left hn).symm) hsrc (by simp [hlen]; omega) (u8s_one l) ?_
    rw [u8s_length]
    refine h _ ?_ (below_setRow (Below.refl _ _) (Nat.le_refl _) _) (by show (World.setRow _ _ _).heap.size = _; simp [World.setRow])
    have := setRow_heap w g cur.toArray (cur.take off ++ (u8s l ++ cur.drop (off + (u8s l).length))).toArray E (0, 0) hg
    simpa [Blk, splice, u8s_length] using this

theorem own_of_block {E : TypeId} {w : World} {base g : Nat} {cs : List Value} {l : List Int} {n c : Nat} (hb : base ≤ g) (hg : Blk E w g cs) (hn : l.length = n) (hl : n ≤ c) (hc : c ≤ 140737488355328)
    (hs : cs.length = c) (ht : cs.take n = u8s l) : Own E w base (.slice (some ⟨g, 0, none⟩) n c) l := by
  subst hn
  exact ⟨by rw [u8s_length, Nat.mul_one], .inr ⟨g, c, cs.toArray, rfl, hb, hg, hl, by unfold maxLen; omega, by simpa using hs, by simpa using ht⟩⟩

theorem run_append_src_none {P : Program} (w : World) (base : Nat) (t ty e : TypeId) (i : TypeInfo) (ht : P.underlying t = some (.slice e)) (hi : P.info? e = some i)
    (v : Value) (n : Nat) (xs : List Value) (hown : w.ownsRow base e 1 v n xs) (c : Nat) :
    (Builtin.append_ #[t, t] ty #[v, .slice none 0 c]).run P w = .ok v w := by
  rcases hown.2 with ⟨rfl, rfl⟩ | ⟨g, cap, cur, rfl, _, _, hnc, _⟩
  · simp [Builtin.append_, run_underlying ht, sizeOf, typeInfo, hi, Builtin.lenOf, Builtin.firstCells]
  · simp [Builtin.append_, run_underlying ht, sizeOf, typeInfo, hi, Builtin.lenOf, Builtin.firstCells, hnc, storeCells]

theorem run_append_rd {P : Program} (w : World) (base : Nat) (t ty e : TypeId) (ht : P.underlying t = some (.slice e)) (h2 : (P.info? e).map (fun i => (i.zero, i.size, i.bytes)) = some (some (.int .u8 0), 1, 1))
    (A : Option Addr) (n c : Nat) (l : List Int) (hn : l.length = n) (hown : Own e w base (.slice A n c) l)
    (B : Nat) (X : Option Addr) (m xc : Nat) (news : List Int) (hR : Rd w B X m news) (hb : n + m ≤ 140737488355328) (hbase : base ≤ w.heap.size) :
    ∃ A' c' w', (Builtin.append_ #[t, t] ty #[.slice A n c, .slice X m xc]).run P w = .ok (.slice A' (n + m) c') w' ∧ Own e w' base (.slice A' (n + m) c') (l ++ news) ∧ Below base w w' ∧ w.grownBy w' (Value.ownBlock (.slice A n c)) := by
  obtain ⟨i, hi, hz0, hz1, hz2⟩ := info_parts h2
  have hm : news.length = m := hR.1
  have hfin : ∀ (v' : Value) (w' : World), w'.ownsRow base e 1 v' (n + m) (u8s (l ++ news)) → w.grownBy w' (Value.ownBlock (.slice A n c)) → ∃ A' c', v' = .slice A' (n + m) c' ∧ Own e w' base (.slice A' (n + m) c') (l ++ news) ∧ Below base w w' := by
    intro v' w' h hg
    have hO : Own e w' base v' (l ++ news) := by
      unfold Own; rw [List.length_append, hn, hm]; exact h
    obtain ⟨A', c', e1, _⟩ := hO.slice
    rw [List.length_append, hn, hm] at e1
    refine ⟨A', c', e1, by rw [← e1]; exact hO, ?_⟩
    exact (Below.refl base w).grown hg hbase (fun k hk => (hown.lt k hk).1)
  rcases X with _ | ad
  · have hm0 : m = 0 := by
      rcases Nat.eq_zero_or_pos m with h0 | h0
      · exact h0
      · obtain ⟨b, o, h, _⟩ := hR.2 h0
        cases h
    subst hm0
    have hnews : news = [] := List.eq_nil_of_length_eq_zero hm
    subst hnews
    have hown' : w.ownsRow base e 1 (.slice A n c) n (u8s l) := by unfold Own at hown; rw [hn] at hown; exact hown
    refine ⟨A, c, w, run_append_src_none w base t ty e i ht hi _ n (u8s l) hown' xc, ?_, Below.refl _ _, World.grownBy.refl _ _⟩
    simpa using hown
  · have hcells : ∀ j u, (u8s news)[j]? = some u → w.cell? (ad.add j) = some u := by
      intro j u hu
      have hp : 0 < (u8s news).length := by have := (List.getElem?_eq_some_iff.1 hu).1; omega
      obtain ⟨ad', h, hc⟩ := hR.pos hp
      injection h with h
      subst h
      exact hc j u hu
    have hown' : w.ownsRow base e 1 (.slice A n c) n (u8s l) := by unfold Own at hown; rw [hn] at hown; exact hown
    obtain ⟨v', w', hrun, h3, h4, _⟩ := run_append_own (P := P) w base t ty e i (.int .u8 0) 1 1 ht hi hz0 hz1 hz2 rfl (by omega) _ n (u8s l) hown' ad m xc (u8s news) (by rw [u8s_length, hm, Nat.mul_one]) hcells (u8s_one news) (by unfold maxLen; omega) (by omega) hbase
    rw [← u8s_append] at h3
    obtain ⟨A', c', rfl, hO, hB⟩ := hfin v' w' h3 h4
    exact ⟨A', c', w', hrun, hO, hB, h4⟩

/-- 'append(out, xs...)': out is the call's own, xs any slice of bytes. -/
theorem wpList_append_rd {P : Program} {w : World} {ops : Array Oper} {rest : List Oper} {o : Oper} {a : Act} {Q : Exit → Act → World → Prop} (hgd : o.guard = none) (s x : Operand) (t : TypeId)
    (ho : o.op = .call { callee := .builtin .append, args := #[s, x], argTypes := #[t, t] }) (base : Nat) (e : TypeId) (ht : P.underlying t = some (.slice e)) (h2 : (P.info? e).map (fun i => (i.zero, i.size, i.bytes)) = some (some (.int .u8 0), 1, 1))
    (A : Option Addr) (n c : Nat) (l : List Int) (hn : l.length = n) (hs : a.eval s = .slice A n c) (hown : Own e w base (.slice A n c) l)
    (B : Nat) (X : Option Addr) (m xc : Nat) (news : List Int) (hx : a.eval x = .slice X m xc) (hR : Rd w B X m news) (hb : n + m ≤ 140737488355328) (hbase : base ≤ w.heap.size)
    (h : ∀ A' c' w', Own e w' base (.slice A' (n + m) c') (l ++ news) → Below base w w' → w.grownBy w' (Value.ownBlock (.slice A n c)) → wpList P ops Q rest (a.put o.dst (.slice A' (n + m) c')) w') : wpList P ops Q (o :: rest) a w := by
  refine wpList_plain hgd fun K hK => ?_
  obtain ⟨A', c', w', hrun, h3, h4, h5⟩ := run_append_rd (P := P) w base t o.type e ht h2 A n c l hn hown B X m xc news hR hb hbase
  unfold Oper.wp execOp
  simp only [ho, resolve, invoke, builtin, Sem.run_bind, Sem.run_pure, Result.andThen_ok, List.map_toArray, List.map_cons, List.map_nil, hs, hx, hrun]
  exact hK _ _ (h A' c' w' h3 h4 h5)

/-- The one-cell block that 'append(out, x)' lays. -/
theorem Rd.one (w : World) (E : TypeId) (z : Int) : Rd (w.alloc (.cells #[.int .u8 z] E)) (w.heap.size + 1) (some ⟨w.heap.size, 0, none⟩) 1 [z] := by
  refine ⟨rfl, fun _ => ⟨_, 0, rfl, by omega, fun j hj => ?_⟩⟩
  obtain rfl : j = 0 := by omega
  have hb : Blk E (w.alloc (.cells #[.int .u8 z] E)) w.heap.size [.int .u8 z] := heap_alloc_new w _
  rw [hb.cell]
  rfl
/-- The empty slice that '[]byte{}' lays. -/
theorem Own.empty (w : World) (E : TypeId) {base : Nat} (hb : base ≤ w.heap.size) : Own E (w.alloc (.cells #[] E)) base (.slice (some ⟨w.heap.size, 0, none⟩) 0 0) [] := by
  have h : Blk E (w.alloc (.cells #[] E)) w.heap.size [] := heap_alloc_new w _
  exact ⟨rfl, .inr ⟨w.heap.size, 0, #[], rfl, hb, h, Nat.le_refl _, by unfold maxLen; omega, rfl, rfl⟩⟩
theorem Own.alloc {E : TypeId} {w : World} {base : Nat} {v : Value} {l : List Int} (h : Own E w base v l) (o : Obj) : Own E (w.alloc o) base v l := h.below ((Below.refl _ _).alloc (Nat.le_refl _) o)
theorem Own.drew {E : TypeId} {w : World} {base : Nat} {v : Value} {l : List Int} (h : Own E w base v l) : Own E w.drew base v l := h

/-- 'string(b)' of any slice of bytes. -/
theorem run_string_rd {P : Program} (w : World) (src e dst : TypeId) (hs : P.underlying src = some (.slice e)) (he : P.underlying e = some (.int .u8)) (hd : P.underlying dst = some .string)
    (B : Nat) (A : Option Addr) (n c : Nat) (l : List Int) (hR : Rd w B A n l) : (convert src dst (.slice A n c)).run P w = .ok (.string (strOfNums l)) w := by
  by_cases h0 : n = 0
  · subst h0
    have hl : l = [] := List.eq_nil_of_length_eq_zero hR.1
    subst hl
    rcases A with _ | ad
    · rw [run_convert_bytes_nil w src e hs he 0 c dst hd]; rfl
    · rw [run_convert_bytes_string w src dst e _ 0 c hs he hd, run_bytesToString w ad 0 c [] (by simp [loadCells, loadCellsFrom])]
      rfl
  · obtain ⟨b, o, rfl, _, hc⟩ := hR.2 (by omega)
    exact run_convert_bytes_arg w src e hs he b o n c l hR.1 hc dst hd

/-- What a call ends in that hands back a new slice of n bytes l, and the error 0. -/
def RetS (E : TypeId) (W : World) (n : Nat) (l : List Int) (e : Ending) (w' : World) : Prop :=
  ∃ A c, e = .returned (.tuple #[.slice A n c, .int .i64 0]) ∧ l.length = n ∧ Own E w' W.heap.size (.slice A n c) l ∧ Below W.heap.size W w'
/-- What a call ends in that hands back a slice of n bytes l that lies from block base on. -/
def RetO (E : TypeId) (W : World) (base n : Nat) (l : List Int) (e : Ending) (w' : World) : Prop :=
  ∃ A c, e = .returned (.slice A n c) ∧ l.length = n ∧ Own E w' base (.slice A n c) l ∧ Below base W w'
/-- What a call ends in that hands back a new slice of n bytes l alone. -/
def RetL (E : TypeId) (W : World) (n : Nat) (l : List Int) (e : Ending) (w' : World) : Prop :=
  ∃ A c, e = .returned (.slice A n c) ∧ l.length = n ∧ Own E w' W.heap.size (.slice A n c) l ∧ Below W.heap.size W w'

theorem splice_zeros (n k : Nat) (l : List Int) (h : l.length = n) : (splice (zeros (n + k)) 0 (u8s l)).take n = u8s l ∧ (splice (zeros (n + k)) 0 (u8s l)).length = n + k := by
  constructor
  · rw [← h, ← u8s_length l]; simp [splice]
  · rw [length_splice _ _ _ (by simp [u8s_length, zeros]; omega)]; simp [zeros]
end Go.Proofs.Ytafdgibkhefplaa.kit

/- The byte's row of the program's table of types. No condition. -/
namespace Go.Proofs.Ytafdgibkhefplaa.bytes
theorem info5 : (Try.prog.info? 5).map (fun i => (i.zero, i.size, i.bytes)) = some (some (.int .u8 0), 1, 1) := by kernel_rfl
end Go.Proofs.Ytafdgibkhefplaa.bytes

/- How a slice of bytes that comes in reads, in the words of the kit. No condition. -/
namespace Go.Proofs.Ytafdgibkhefplaa.frame
open Go.ChangeShapes Go.WideShapes Go.ChangeAt Go.RowKit Go.Proofs.Ytafdgibkhefplaa.kit Go.Proofs.Ytafdgibkhefplaa.nums

theorem rd_of_trod {H : Type} {enc : TypeId × Value → H} {W : World} {A : Option Addr} {len cap : Nat} {d : DataW H} {p : List MemPlace}
    (h : DataW.Trod enc Try.prog W 0 (fun _ => true) true 35 (.slice A len cap) d p) : ∃ l, Rd W W.heap.size A len l ∧ Byt l ∧ len ≤ cap ∧ cap ≤ maxLen := by
  obtain ⟨fuel, hf⟩ := h
  rcases open_ints Try.underlying35 Try.underlying5 (by kernel_rfl) hf with ⟨hcs, _⟩ | ⟨x, l, c, zs, hcs, _, hl, hm, hz, _, hcell, hwz⟩
  · simp [Value.cells] at hcs
    obtain ⟨rfl, rfl, rfl⟩ := hcs
    exact ⟨[], Rd.nil _ _ _, Byt.nil, Nat.le_refl _, by unfold maxLen; omega⟩
  · simp [Value.cells] at hcs
    obtain ⟨rfl, rfl, rfl⟩ := hcs
    have hz' : zs.length = cap := by simpa using hz
    refine ⟨zs.take len, ⟨by rw [List.length_take]; omega, fun hp => ?_⟩, fun n hn => ?_, hl, hm⟩
    · have h0 := hcell 0 (by omega)
      obtain ⟨b, o, spot⟩ := x
      have hspot : spot = none := by simpa [Addr.add] using World.cell?_spot h0
      subst hspot
      refine ⟨b, o, rfl, World.block_lt_of_cell? W (a := ⟨b, o, none⟩) (u := .int .u8 (zs.getD 0 0)) (by simpa [Addr.add] using h0), fun j hj => ?_⟩
      have hj' := hcell j (by omega)
      rw [Addr.add_lit] at hj'
      rw [hj', List.getD_eq_getElem?_getD, List.getD_eq_getElem?_getD, List.getElem?_take, if_pos hj]
    · have := hwz n (List.mem_of_mem_take hn)
      simpa [Lit.wf, IntKind.min, IntKind.max, IntKind.signed, IntKind.bits] using this
end Go.Proofs.Ytafdgibkhefplaa.frame

/- What bits.withRoom does with any slice of bytes: a new slice of the same bytes with so much room behind. Condition: the bytes and the room together are at most 2^47. -/
namespace Go.Proofs.Ytafdgibkhefplaa.bytes
set_option linter.unusedVariables false
open Go.RowKit Go.Proofs.Ytafdgibkhefplaa.kit

set_option maxHeartbeats 400000 in
theorem withRoom_any (A : Option Addr) (n c : Nat) (l : List Int) (r : Nat) (w : World) (hR : Rd w w.heap.size A n l) (hb : n + r ≤ 140737488355328) :
    Calls Try.prog 82 #[.slice A n c, .int .i64 r] w fun e w' => e = .returned (.slice (some ⟨w.heap.size, 0, none⟩) n (n + r)) ∧ Own 5 w' w.heap.size (.slice (some ⟨w.heap.size, 0, none⟩) n (n + r)) l ∧ Below w.heap.size w w' := by
  go_enter Try.func82, Try.ntmps82
  go_wp2_with (at_make; refine wpList_make_bytes _ rfl _ _ 35 rfl 5 Try.underlying35 info5 .i64 .i64 _ _ n (n + r) rfl rfl ?cL ?cC ?c1 hb ?_)
  case cL => rfl
  case cC => simp
  case c1 => omega
  intro w1 HG HB HS
  go_wp2_with (with_reducible refine wpList_copy_rd rfl (.tmp 13) (.tmp 14) 35 35 rfl 5 Try.underlying35 info5 n (n + r) n c A w.heap.size 0 rfl rfl _ 5 HG w.heap.size l (hR.below HB) (Nat.le_refl _) ?f1 ?_)
  case f1 => rw [zeros_length]; omega
  intro w2 HG2 HB2 HS2
  go_wp2
  go_ret
  obtain ⟨e1, e2⟩ := splice_zeros n r l hR.len
  exact ⟨rfl, own_of_block (Nat.le_refl _) HG2 hR.len (by omega) hb e2 e1, HB.trans HB2⟩
theorem withRoom_int (A : Option Addr) (n c : Nat) (l : List Int) (r : Int) (w : World) (hR : Rd w w.heap.size A n l) (h0 : 0 ≤ r) (hb : n + r.toNat ≤ 140737488355328) :
    Calls Try.prog 82 #[.slice A n c, .int .i64 r] w (RetL 5 w n l) := by
  obtain ⟨k, rfl⟩ := Int.eq_ofNat_of_zero_le h0
  refine (withRoom_any A n c l k w hR (by simpa using hb)).mono ?_
  rintro e w' ⟨rfl, hO, hB⟩
  exact ⟨_, _, rfl, hR.len, hO, hB⟩
end Go.Proofs.Ytafdgibkhefplaa.bytes

/- What bits.Put does with any slice of bytes, any number and any count: the document's bytes behind a copy, or the error. Condition: the slice is at most 2^40 long. -/
namespace Go.Proofs.Ytafdgibkhefplaa.bytes
set_option linter.unusedVariables false
open Go.RowKit Go.Proofs.Ytafdgibkhefplaa.kit Go.Proofs.Ytafdgibkhefplaa.nums

theorem put_few (s : Value) (v k : Int) (w : World) (h : k < 1 ∨ 8 < k) :
    Calls Try.prog 76 #[s, .int .u64 v, .int .i64 k] w fun e w' => e = .returned (.tuple #[.slice none 0 0, .int .i64 1]) ∧ w = w' := by
  by_cases hk : k < 1
  · go_enter Try.func76, Try.ntmps76
    go_wp2_with fail
    go_ret2
    exact ⟨rfl, rfl⟩
  · have hk2 : 8 < k := by omega
    go_enter Try.func76, Try.ntmps76
    go_wp2_with fail
    go_ret2
    exact ⟨rfl, rfl⟩

theorem put_great (s : Value) (v : Int) (k : Nat) (w : World) (h0 : 0 ≤ v) (h1 : v ≤ 18446744073709551615) (hk0 : 1 ≤ k) (hk1 : k ≤ 8) (hv : (v / 2 ^ (8 * k) != 0) = true) :
    Calls Try.prog 76 #[s, .int .u64 v, .int .i64 k] w fun e w' => e = .returned (.tuple #[.slice none 0 0, .int .i64 5]) ∧ w = w' := by
  go_enter Try.func76, Try.ntmps76
  go_wp2_with fail
  go_ret2
  exact ⟨rfl, rfl⟩

set_option maxHeartbeats 400000 in
theorem put_ok (A : Option Addr) (n c : Nat) (l : List Int) (v : Int) (k : Nat) (w : World) (hR : Rd w w.heap.size A n l) (hb : n ≤ 1099511627776) (h0 : 0 ≤ v) (h1 : v ≤ 18446744073709551615) (hk0 : 1 ≤ k) (hk1 : k ≤ 8) (hv : (v / 2 ^ (8 * k) != 0) = false) :
    Calls Try.prog 76 #[.slice A n c, .int .u64 v, .int .i64 k] w (RetS 5 w (n + k) (l ++ beB v k)) := by
  go_enter Try.func76, Try.ntmps76
  go_wp2_with (go_at_call 82; refine (withRoom_any A n c l k _ hR (by omega)).mono ?_; rintro e w1 ⟨rfl, hO, hB⟩)
  clear hv
  go_loopw [8, 9] (fun s i wr => ∃ (m j : Nat) (A' : Option Addr) (c' : Nat), m + j = k ∧ i = .int .i64 ((m : Int) - 1) ∧ s = .slice A' (n + j) c' ∧ Own 5 wr w.heap.size (.slice A' (n + j) c') (l ++ (beB v k).take j) ∧ Below w.heap.size w wr) (fun _ i _ => (intOf i + 1).toNat)
  case atStart => exact ⟨k, 0, _, _, rfl, rfl, rfl, by simpa using hO, hB⟩
  case round =>
    obtain ⟨m, j, A', c', hmj, rfl, rfl, hO', hB'⟩ := hrel
    have hsz := hB'.size
    rcases m with _ | m
    · go_wp2_with fail
      go_ret2
      obtain rfl : j = k := by omega
      rw [beB_all] at hO'
      exact ⟨A', c', rfl, by simp [hR.len, beB_length], hO', hB'⟩
    · rw [show (((m + 1 : Nat) : Int) - 1) = (m : Int) by omega]
      go_wp2_with (at_builtin; with_reducible refine wpList_append_rd rfl (.tmp 30) (.tmp 36) 35 rfl w.heap.size 5 Try.underlying35 info5 A' (n + j) c' _ ?hn rfl (hO'.alloc _) _ _ 1 1 [_] rfl (Rd.one _ _ _) ?hb2 ?hbase ?_)
      case hn => simp [hR.len, beB_length]; omega
      case hb2 => omega
      case hbase => simp; omega
      intro A2 c2 w2 hO2 hB2 _
      go_wp2_with fail
      go_roundw
      case rel => exact ⟨m, j + 1, A2, c2, by omega, rfl, rfl, by rw [beB_take v k m j (by omega)]; exact hO2, (hB'.alloc hsz _).trans hB2⟩
      case measure => simp [intOf]
end Go.Proofs.Ytafdgibkhefplaa.bytes

/- What bits.Get does with any slice of bytes, any place and any count: the document's number, or the error. Condition: the slice is at most 2^40 long. -/
namespace Go.Proofs.Ytafdgibkhefplaa.bytes
open Go.RowKit Go.Proofs.Ytafdgibkhefplaa.kit Go.Proofs.Ytafdgibkhefplaa.nums
set_option linter.unusedVariables false

theorem get_bad (s : Value) (p k : Int) (w : World) (h : k < 1 ∨ 8 < k ∨ p < 0) :
    Calls Try.prog 80 #[s, .int .i64 p, .int .i64 k] w fun e w' => e = .returned (.tuple #[.int .u64 0, .int .i64 1]) ∧ w = w' := by
  by_cases hk : k < 1
  · go_enter Try.func80, Try.ntmps80
    go_wp2_with fail
    go_ret2
    exact ⟨rfl, rfl⟩
  · by_cases hk2 : 8 < k
    · go_enter Try.func80, Try.ntmps80
      go_wp2_with fail
      go_ret2
      exact ⟨rfl, rfl⟩
    · have hp : p < 0 := by omega
      go_enter Try.func80, Try.ntmps80
      go_wp2_with fail
      go_ret2
      exact ⟨rfl, rfl⟩

theorem get_short (A : Option Addr) (n c : Nat) (p k : Int) (w : World) (hk0 : 1 ≤ k) (hk1 : k ≤ 8) (hp0 : 0 ≤ p) (hb : n ≤ 1099511627776) (hp : (n : Int) - k < p) :
    Calls Try.prog 80 #[.slice A n c, .int .i64 p, .int .i64 k] w fun e w' => e = .returned (.tuple #[.int .u64 0, .int .i64 2]) ∧ w = w' := by
  go_enter Try.func80, Try.ntmps80
  go_wp2_with fail
  go_ret2
  exact ⟨rfl, rfl⟩

set_option maxHeartbeats 400000 in
theorem get_ok (A : Option Addr) (n c : Nat) (l : List Int) (p k : Nat) (w : World) (B : Nat) (hR : Rd w B A n l) (hY : Byt l) (hb : n ≤ 1099511627776) (hc : n ≤ c) (hk0 : 1 ≤ k) (hk1 : k ≤ 8) (hp : p + k ≤ n) :
    Calls Try.prog 80 #[.slice A n c, .int .i64 p, .int .i64 k] w fun e w' => e = .returned (.tuple #[.int .u64 (beV ((l.drop p).take k)), .int .i64 0]) ∧ w = w' := by
  obtain ⟨b, o, rfl, hbB, hcell⟩ := hR.2 (by omega)
  have HC := Lib.hid hcell
  have HL := Lib.hid hR.1
  clear hcell hR
  go_enter Try.func80, Try.ntmps80
  go_wp2_with fail
  go_loop [8, 34] (fun v i => ∃ j : Nat, j ≤ k ∧ i = .int .i64 j ∧ v = .int .u64 (beV ((l.drop p).take j))) (fun _ i => k - (intOf i).toNat)
  case atStart => exact ⟨0, Nat.zero_le _, rfl, rfl⟩
  case round =>
    obtain ⟨j, hj, rfl, rfl⟩ := hrel
    by_cases hlt : j < k
    · have hx := HC.out (p + j) (by omega)
      rw [← Nat.add_assoc] at hx
      have hx0 := (hY.at_ (p + j)).1
      have hx1 := (hY.at_ (p + j)).2
      have hlen : ((l.drop p).take j).length ≤ 7 := Nat.le_trans (List.length_take_le _ _) (by omega)
      have hv0 := (beV_lt _ ((hY.drop p).take j) hlen).1
      have hv1 := (beV_lt _ ((hY.drop p).take j) hlen).2
      have hs : beV ((l.drop p).take (j + 1)) = beV ((l.drop p).take j) * 256 + l.getD (p + j) 0 := by
        have hL := HL.out
        rw [List.take_succ_eq_append_getElem (by rw [List.length_drop]; omega), beV_snoc]
        simp [List.getD, show p + j < l.length by omega]
      have HS := Lib.hid hs
      have hor := Lib.hid (beV_or _ _ hv0 hv1 hx0 hx1)
      clear hs hlen
      generalize beV ((l.drop p).take j) = v at *
      generalize l.getD (p + j) 0 = x at *
      go_wp2_with fail
      go_round
      case rel => exact ⟨j + 1, by omega, by go_num, by rw [HS.out, ← hor.out]⟩
      case measure => simp [intOf]; omega
    · obtain rfl : j = k := by omega
      go_wp2_with fail
      go_ret2
      exact ⟨rfl, rfl⟩
end Go.Proofs.Ytafdgibkhefplaa.bytes

/- What the document's Put, Var and Text write behind any slice of bytes. Condition: the slices are at most 2^40 long. -/
namespace Go.Proofs.Ytafdgibkhefplaa.bytes
open Go.RowKit Go.Proofs.Ytafdgibkhefplaa.kit Go.Proofs.Ytafdgibkhefplaa.nums
set_option linter.unusedVariables false

theorem rput_few (s : Value) (v k : Int) (w : World) (h : k < 1 ∨ 8 < k) :
    Calls Try.prog 62 #[s, .int .u64 v, .int .i64 k] w fun e w' => e = .returned (.tuple #[.slice none 0 0, .int .i64 1]) ∧ w = w' := by
  by_cases hk : k < 1
  · go_enter Try.func62, Try.ntmps62
    go_wp2_with fail
    go_ret2
    exact ⟨rfl, rfl⟩
  · have hk2 : 8 < k := by omega
    go_enter Try.func62, Try.ntmps62
    go_wp2_with fail
    go_ret2
    exact ⟨rfl, rfl⟩

/-- What Put ends in: the bytes and 0, or nothing and ErrRange. -/
def RetP (W : World) (n : Nat) (l : List Int) (v : Int) (k : Nat) (e : Ending) (w' : World) : Prop :=
  (v / 2 ^ (8 * k) = 0 ∧ RetS 5 W (n + k) (l ++ beB v k) e w') ∨ (v / 2 ^ (8 * k) ≠ 0 ∧ e = .returned (.tuple #[.slice none 0 0, .int .i64 5]) ∧ Below W.heap.size W w')

set_option maxHeartbeats 400000 in
theorem rput_any (A : Option Addr) (n c : Nat) (l : List Int) (v : Int) (k : Nat) (w : World) (hR : Rd w w.heap.size A n l) (hb : n ≤ 1099511627776) (h0 : 0 ≤ v) (h1 : v ≤ 18446744073709551615) (hk0 : 1 ≤ k) (hk1 : k ≤ 8) :
    Calls Try.prog 62 #[.slice A n c, .int .u64 v, .int .i64 k] w (RetP w n l v k) := by
  have hn := hR.len
  have HN := Lib.hid hn
  clear hn
  go_enter Try.func62, Try.ntmps62
  go_wp2_with (at_make; refine wpList_make_bytes _ rfl _ _ 35 rfl 5 Try.underlying35 info5 .i64 .i64 _ _ k k rfl rfl rfl rfl ?c1 ?c2 ?_)
  case c1 => omega
  case c2 => omega
  intro w1 HG HB HS
  go_wp2_with fail
  go_loopw [1, 9] (fun u i wr => ∃ (m j : Nat), m + j = k ∧ i = .int .i64 ((m : Int) - 1) ∧ u = .int .u64 (v / 2 ^ (8 * j)) ∧ Blk 5 wr w.heap.size (zeros m ++ u8s ((beB v k).drop m)) ∧ Below w.heap.size w wr) (fun _ i _ => (intOf i + 1).toNat)
  case atStart => exact ⟨k, 0, rfl, rfl, by simp, by rw [List.drop_of_length_le (by rw [beB_length]; exact Nat.le_refl _)]; simpa [u8s] using HG, HB⟩
  case round =>
    obtain ⟨m, j, hmj, rfl, rfl, HG', hB'⟩ := hrel
    have hsz := hB'.size
    have hlt := HG'.lt
    have hv0 : 0 ≤ v / 2 ^ (8 * j) := Int.ediv_nonneg h0 (Int.le_of_lt (Int.pow_pos (by decide)))
    have hv1 : v / 2 ^ (8 * j) ≤ 18446744073709551615 := Int.le_trans (Int.ediv_le_self _ h0) h1
    rcases m with _ | m
    · obtain rfl : j = k := by omega
      have HG2 : Blk 5 wr w.heap.size (u8s (beB v j)) := by simpa [zeros] using HG'
      have hR2 := (hR.on hB' hsz).alloc (Nat.le_refl _) (.cells #[] 5)
      clear HG' hR HG
      by_cases hu : 0 < v / 2 ^ (8 * j)
      · have HU := Lib.hid (show v / 2 ^ (8 * j) ≠ 0 by omega)
        generalize v / 2 ^ (8 * j) = u at hv0 hv1 hu ⊢
        go_wp2_with fail
        go_ret2
        exact .inr ⟨HU.out, rfl, hB'⟩
      · have HU := Lib.hid (show v / 2 ^ (8 * j) = 0 by omega)
        generalize v / 2 ^ (8 * j) = u at hv0 hv1 hu ⊢
        go_wp2_with (at_builtin; with_reducible refine wpList_append_rd rfl (.tmp 34) (.tmp 35) 35 rfl wr.heap.size 5 Try.underlying35 info5 _ 0 0 [] rfl rfl (Own.empty _ _ (Nat.le_refl _)) _ _ n _ _ rfl hR2 ?ha ?hbs ?_)
        case ha => omega
        intro A1 c1 w2 hO1 hB1 _
        have hB2 : Below wr.heap.size wr w2 := ((Below.refl _ _).alloc (Nat.le_refl _) _).trans hB1
        have hR3 := (HG2.below hB2 hlt).rd (n := j) (List.take_of_length_le (by rw [u8s_length, beB_length]; exact Nat.le_refl _)) (beB_length v j) (show w.heap.size < w2.heap.size by have := hB2.size; omega)
        have HN2 := HN.out
        go_wp2_with (at_builtin; with_reducible refine wpList_append_rd rfl (.tmp 36) (.tmp 37) 35 rfl wr.heap.size 5 Try.underlying35 info5 A1 n c1 l HN.out rfl hO1 _ _ j _ _ rfl hR3 ?hc hB2.size ?_)
        case hc => omega
        intro A3 c3 w3 hO3 hB3 _
        go_wp2_with fail
        go_ret2
        exact .inl ⟨HU.out, A3, c3, rfl, by rw [List.length_append, HN.out, beB_length], hO3.more hsz, hB'.trans ((hB2.trans hB3).mono hsz)⟩
    · have hcell : wr.cell? ⟨w.heap.size, m, none⟩ = some (.int .u8 0) := by rw [HG'.cell m, zeros_get]
      have hfr := HG'.frozen m
      have HD := Lib.hid (div_step v j)
      have HE := Lib.hid (beB_drop v k m j (by omega))
      have HS' := Lib.hid (HG'.set_ m (.int .u8 (v / 2 ^ (8 * j) % 256)))
      rw [show (((m + 1 : Nat) : Int) - 1) = (m : Int) by omega]
      have HK := Lib.hid hmj
      have hmk : m < k := by omega
      clear hmj
      generalize hu : v / 2 ^ (8 * j) = u at *
      clear hu
      go_wp2_with fail
      go_roundw
      case rel => exact ⟨m, j + 1, by have := HK.out; omega, rfl, by rw [← HD.out], by have := HS'.out; rw [zeros_set] at this; rw [HE.out]; exact this, hB'.setCell (by simp) _⟩
      case measure => simp [intOf]
end Go.Proofs.Ytafdgibkhefplaa.bytes

/- What the document's Get does with any slice of bytes, any place and any count, and that bits.Get does the same. Condition: the slice is at most 2^40 long. -/
namespace Go.Proofs.Ytafdgibkhefplaa.bytes
open Go.RowKit Go.Proofs.Ytafdgibkhefplaa.kit Go.Proofs.Ytafdgibkhefplaa.nums
set_option linter.unusedVariables false

theorem rget_bad (s : Value) (p k : Int) (w : World) (h : k < 1 ∨ 8 < k ∨ p < 0) :
    Calls Try.prog 77 #[s, .int .i64 p, .int .i64 k] w fun e w' => e = .returned (.tuple #[.int .u64 0, .int .i64 1]) ∧ w = w' := by
  by_cases hk : k < 1
  · go_enter Try.func77, Try.ntmps77
    go_wp2_with fail
    go_ret2
    exact ⟨rfl, rfl⟩
  · by_cases hk2 : 8 < k
    · go_enter Try.func77, Try.ntmps77
      go_wp2_with fail
      go_ret2
      exact ⟨rfl, rfl⟩
    · have hp : p < 0 := by omega
      go_enter Try.func77, Try.ntmps77
      go_wp2_with fail
      go_ret2
      exact ⟨rfl, rfl⟩

theorem rget_short (A : Option Addr) (n c : Nat) (p k : Int) (w : World) (hk0 : 1 ≤ k) (hk1 : k ≤ 8) (hp0 : 0 ≤ p) (hpm : p ≤ 9223372036854775807) (hb : n ≤ 1099511627776) (hp : (n : Int) - k < p) :
    Calls Try.prog 77 #[.slice A n c, .int .i64 p, .int .i64 k] w fun e w' => e = .returned (.tuple #[.int .u64 0, .int .i64 2]) ∧ w = w' := by
  by_cases h : (n : Int) < p
  · go_enter Try.func77, Try.ntmps77
    go_wp2_with fail
    go_ret2
    exact ⟨rfl, rfl⟩
  · have h2 : (n : Int) - p < k := by omega
    go_enter Try.func77, Try.ntmps77
    go_wp2_with fail
    go_ret2
    exact ⟨rfl, rfl⟩

set_option maxHeartbeats 400000 in
theorem rget_ok (A : Option Addr) (n c : Nat) (l : List Int) (p k : Nat) (w : World) (B : Nat) (hR : Rd w B A n l) (hY : Byt l) (hb : n ≤ 1099511627776) (hk0 : 1 ≤ k) (hk1 : k ≤ 8) (hp : p + k ≤ n) :
    Calls Try.prog 77 #[.slice A n c, .int .i64 p, .int .i64 k] w fun e w' => e = .returned (.tuple #[.int .u64 (beV ((l.drop p).take k)), .int .i64 0]) ∧ w = w' := by
  obtain ⟨b, o, rfl, hbB, hcell⟩ := hR.2 (by omega)
  have HC := Lib.hid hcell
  have HL := Lib.hid hR.1
  clear hcell hR
  go_enter Try.func77, Try.ntmps77
  go_wp2_with fail
  go_loop [8, 9] (fun v i => ∃ j : Nat, j ≤ k ∧ i = .int .i64 j ∧ v = .int .u64 (beV ((l.drop p).take j))) (fun _ i => k - (intOf i).toNat)
  case atStart => exact ⟨0, Nat.zero_le _, rfl, rfl⟩
  case round =>
    obtain ⟨j, hj, rfl, rfl⟩ := hrel
    by_cases hlt : j < k
    · have hx := HC.out (p + j) (by omega)
      have hx0 := (hY.at_ (p + j)).1
      have hx1 := (hY.at_ (p + j)).2
      have hlen : ((l.drop p).take j).length ≤ 7 := Nat.le_trans (List.length_take_le _ _) (by omega)
      have hv0 := (beV_lt _ ((hY.drop p).take j) hlen).1
      have hv1 := (beV_lt _ ((hY.drop p).take j) hlen).2
      have hs : beV ((l.drop p).take (j + 1)) = beV ((l.drop p).take j) * 256 + l.getD (p + j) 0 := by
        have hL := HL.out
        rw [List.take_succ_eq_append_getElem (by rw [List.length_drop]; omega), beV_snoc]
        simp [List.getD, show p + j < l.length by omega]
      have HS := Lib.hid hs
      clear hs hlen
      generalize beV ((l.drop p).take j) = v at *
      generalize l.getD (p + j) 0 = x at *
      go_wp2_with fail
      go_round
      case rel => exact ⟨j + 1, by omega, by go_num, by rw [HS.out]⟩
      case measure => simp [intOf]; omega
    · obtain rfl : j = k := by omega
      go_wp2_with fail
      go_ret2
      exact ⟨rfl, rfl⟩

/-- What Get answers: the number and the error. -/
def getE (l : List Int) (p k : Int) : Int := if k < 1 ∨ 8 < k ∨ p < 0 then 1 else if (l.length : Int) - k < p then 2 else 0
def getV (l : List Int) (p k : Int) : Int := if getE l p k = 0 then beV ((l.drop p.toNat).take k.toNat) else 0
theorem get_both (A A' : Option Addr) (n c c' : Nat) (l : List Int) (p k : Int) (w w' : World) (B B' : Nat) (hR : Rd w B A n l) (hR' : Rd w' B' A' n l) (hY : Byt l) (hb : n ≤ 1099511627776) (hc : n ≤ c) (hpm : p ≤ 9223372036854775807) :
    (Calls Try.prog 80 #[.slice A n c, .int .i64 p, .int .i64 k] w fun e w2 => e = .returned (.tuple #[.int .u64 (getV l p k), .int .i64 (getE l p k)]) ∧ w = w2) ∧
    (Calls Try.prog 77 #[.slice A' n c', .int .i64 p, .int .i64 k] w' fun e w2 => e = .returned (.tuple #[.int .u64 (getV l p k), .int .i64 (getE l p k)]) ∧ w' = w2) := by
  by_cases h1 : k < 1 ∨ 8 < k ∨ p < 0
  · have e1 : getE l p k = 1 := if_pos h1
    have e2 : getV l p k = 0 := by unfold getV; rw [e1]; rfl
    rw [e1, e2]
    exact ⟨get_bad _ p k w h1, rget_bad _ p k w' h1⟩
  · by_cases h2 : (n : Int) - k < p
    · have e1 : getE l p k = 2 := by unfold getE; rw [if_neg h1, if_pos (by rw [hR.1]; exact h2)]
      have e2 : getV l p k = 0 := by unfold getV; rw [e1]; rfl
      rw [e1, e2]
      exact ⟨get_short A n c p k w (by omega) (by omega) (by omega) hb h2, rget_short A' n c' p k w' (by omega) (by omega) (by omega) hpm hb h2⟩
    · obtain ⟨p, rfl⟩ := Int.eq_ofNat_of_zero_le (show 0 ≤ p by omega)
      obtain ⟨k, rfl⟩ := Int.eq_ofNat_of_zero_le (show 0 ≤ k by omega)
      have e1 : getE l p k = 0 := by unfold getE; rw [if_neg h1, if_neg (by rw [hR.1]; exact h2)]
      have e2 : getV l p k = beV ((l.drop p).take k) := by unfold getV; rw [e1]; rfl
      rw [e1, e2]
      exact ⟨get_ok A n c l p k w B hR hY hb hc (by omega) (by omega) (by omega), rget_ok A' n c' l p k w' B' hR' hY hb (by omega) (by omega) (by omega)⟩
end Go.Proofs.Ytafdgibkhefplaa.bytes

/- What the statements' Twin, Kept and Spoil do: the same bytes with spare room, whether it is as it was, and all written over. Condition: the slices are at most 2^40 long. -/
namespace Go.Proofs.Ytafdgibkhefplaa.bytes
open Go.RowKit Go.Proofs.Ytafdgibkhefplaa.kit
set_option linter.unusedVariables false

/-- Block g is a twin of the bytes l: they and three cells 0xe5. -/
def IsTwin (w : World) (g : Nat) (l : List Int) : Prop := Blk 5 w g (u8s (l ++ [229, 229, 229]))
theorem IsTwin.below {w w' : World} {g B : Nat} {l : List Int} (h : IsTwin w g l) (hb : Below B w w') (hg : g < B) : IsTwin w' g l := Blk.below h hb hg
theorem IsTwin.lt {w : World} {g : Nat} {l : List Int} (h : IsTwin w g l) : g < w.heap.size := Blk.lt h
theorem IsTwin.rd {w : World} {g n : Nat} {l : List Int} (h : IsTwin w g l) (hn : l.length = n) {B : Nat} (hB : g < B) : Rd w B (some ⟨g, 0, none⟩) n l :=
  Blk.rd h (by rw [u8s_append, ← hn, ← u8s_length]; exact List.take_left) hn hB

/-- The cells of a twin that is j cells on its way. -/
def tw (l : List Int) (j : Nat) : List Value := u8s l ++ (u8s (List.replicate j 229) ++ zeros (3 - j))
theorem tw_zero (l : List Int) (n : Nat) (h : l.length = n) : splice (zeros (n + 3)) 0 (u8s l) = tw l 0 := by
  unfold splice tw
  rw [u8s_length, h]
  simp [zeros, u8s]
theorem tw_three (l : List Int) : tw l 3 = u8s (l ++ [229, 229, 229]) := by simp [tw, u8s, zeros]
theorem tw_set (l : List Int) (n j : Nat) (h : l.length = n) (hj : j < 3) : (tw l j).set (n + j) (.int .u8 229) = tw l (j + 1) := by
  have h2 : n + j - (u8s l).length = j := by rw [u8s_length, h]; omega
  unfold tw
  rw [List.set_append_right _ _ (by rw [u8s_length]; omega), h2]
  have h3 : ∀ j : Fin 3, (u8s (List.replicate j.1 229) ++ zeros (3 - j.1)).set j.1 (.int .u8 229) = u8s (List.replicate (j.1 + 1) 229) ++ zeros (3 - (j.1 + 1)) := by
    intro j
    match j with
    | 0 => rfl
    | 1 => rfl
    | 2 => rfl
  rw [h3 ⟨j, hj⟩]
theorem tw_get (l : List Int) (n j : Nat) (h : l.length = n) (hj : j < 3) : (tw l j)[n + j]? = some (.int .u8 0) := by
  have h2 : n + j - (u8s l).length = j := by rw [u8s_length, h]; omega
  unfold tw
  rw [List.getElem?_append_right (by rw [u8s_length]; omega), h2]
  have h3 : ∀ j : Fin 3, (u8s (List.replicate j.1 229) ++ zeros (3 - j.1))[j.1]? = some (.int .u8 0) := by
    intro j
    match j with
    | 0 => rfl
    | 1 => rfl
    | 2 => rfl
  exact h3 ⟨j, hj⟩

set_option maxHeartbeats 400000 in
theorem twin_any (A : Option Addr) (n c : Nat) (l : List Int) (w : World) (hR : Rd w w.heap.size A n l) (hb : n ≤ 1099511627776) :
    Calls Try.prog 37 #[.slice A n c] w fun e w' => e = .returned (.slice (some ⟨w.heap.size, 0, none⟩) n (n + 3)) ∧ IsTwin w' w.heap.size l ∧ Below w.heap.size w w' := by
  go_enter Try.func37, Try.ntmps37
  go_wp2_with (at_make; refine wpList_make_bytes _ rfl _ _ 35 rfl 5 Try.underlying35 info5 .i64 .i64 _ _ (n + 3) (n + 3) rfl rfl ?cL ?cC ?c1 ?c2 ?_)
  case cL => simp
  case cC => simp
  case c1 => omega
  case c2 => omega
  intro w1 HG HB HS
  go_wp2_with (with_reducible refine wpList_copy_rd rfl (.tmp 9) (.tmp 10) 35 35 rfl 5 Try.underlying35 info5 (n + 3) (n + 3) n c A w.heap.size 0 rfl rfl _ 5 HG w.heap.size l (hR.below HB) ?f0 ?f1 ?_)
  case f0 => omega
  case f1 => rw [zeros_length]; omega
  intro w2 HG2 HB2 HS2
  rw [tw_zero l n hR.len] at HG2
  have HBB := HB.trans HB2
  have HN := Lib.hid hR.len
  clear HG HB HB2 HS HS2 hR
  go_wp2_with fail
  go_loopw [4] (fun i wr => ∃ j : Nat, j ≤ 3 ∧ i = .int .i64 ((n : Int) + j) ∧ Blk 5 wr w.heap.size (tw l j) ∧ Below w.heap.size w wr) (fun i _ => (n + 3) - (intOf i).toNat)
  case atStart => exact ⟨0, by omega, by simp, HG2, HBB⟩
  case round =>
    obtain ⟨j, hj, rfl, HG', hB'⟩ := hrel
    by_cases h3 : j < 3
    · have hcell : wr.cell? ⟨w.heap.size, n + j, none⟩ = some (.int .u8 0) := by rw [HG'.cell, tw_get l n j HN.out h3]
      have hfr := HG'.frozen (n + j)
      have HS := HG'.set_ (n + j) (.int .u8 229)
      rw [tw_set l n j HN.out h3] at HS
      go_wp2_with fail
      go_roundw
      case rel => exact ⟨j + 1, by omega, by go_num, HS, hB'.setCell (by simp) _⟩
      case measure => simp [intOf]; omega
    · obtain rfl : j = 3 := by omega
      rw [tw_three] at HG'
      go_wp2_with fail
      go_ret
      exact ⟨rfl, HG', hB'⟩

theorem tw_229 (l : List Int) (n j : Nat) (h : l.length = n) (hj : j < 3) : (u8s (l ++ [229, 229, 229]))[n + j]? = some (.int .u8 229) := by
  rw [u8s_append, List.getElem?_append_right (by rw [u8s_length]; omega), u8s_length, h, Nat.add_sub_cancel_left]
  have h3 : ∀ j : Fin 3, (u8s [229, 229, 229])[j.1]? = some (.int .u8 229) := by
    intro j
    match j with
    | 0 => rfl
    | 1 => rfl
    | 2 => rfl
  exact h3 ⟨j, hj⟩

set_option maxHeartbeats 400000 in
theorem kept_any (g : Nat) (A : Option Addr) (n c : Nat) (l : List Int) (w : World) (B : Nat) (hT : IsTwin w g l) (hR : Rd w B A n l) (hb : n ≤ 1099511627776) :
    Calls Try.prog 39 #[.slice (some ⟨g, 0, none⟩) n (n + 3), .slice A n c] w fun e w' => e = .returned (.bool true) ∧ w = w' := by
  have hcv1 := run_string_rd (P := Try.prog) w 35 5 9 Try.underlying35 Try.underlying5 Try.underlying9 w.heap.size (some ⟨g, 0, none⟩) n (n + 3) l (hT.rd hR.len hT.lt)
  have hcv2 := run_string_rd (P := Try.prog) w 35 5 9 Try.underlying35 Try.underlying5 Try.underlying9 B A n c l hR
  have HN := Lib.hid hR.len
  generalize strOfNums l = S at *
  clear hR
  go_enter Try.func39, Try.ntmps39
  go_wp2_with fail
  clear hcv1 hcv2
  go_loop [6] (fun i => ∃ j : Nat, j ≤ 3 ∧ i = .int .i64 ((n : Int) + j)) (fun i => (n + 3) - (intOf i).toNat)
  case atStart => exact ⟨0, by omega, by simp⟩
  case round =>
    obtain ⟨j, hj, rfl⟩ := hrel
    by_cases h3 : j < 3
    · have hcell : w.cell? ⟨g, n + j, none⟩ = some (.int .u8 229) := by rw [Blk.cell hT, tw_229 l n j HN.out h3]
      go_wp2_with fail
      go_round
      case rel => exact ⟨j + 1, by omega, by go_num⟩
      case measure => simp [intOf]; omega
    · obtain rfl : j = 3 := by omega
      go_wp2_with fail
      go_ret
      exact ⟨rfl, rfl⟩

set_option maxHeartbeats 400000 in
theorem spoil_any (A : Option Addr) (n c : Nat) (l : List Int) (w : World) (base : Nat) (hO : Own 5 w base (.slice A n c) l) :
    Calls Try.prog 40 #[.slice A n c] w fun e w' => e = .returned (.tuple #[]) ∧ w.grownBy w' (Value.ownBlock (.slice A n c)) := by
  rcases hO.2 with ⟨hv, hn⟩ | ⟨g, cap, cur, hv, hb, hg, hnc, hcm, hcs, htake⟩
  · simp only [Value.slice.injEq] at hv
    obtain ⟨rfl, rfl, rfl⟩ := hv
    go_enter Try.func40, Try.ntmps40
    go_wp2_with fail
    go_loop [3] (fun i => i = .int .i64 0) (fun _ => 0)
    case atStart => rfl
    case round =>
      subst hrel
      go_wp2_with fail
      go_end0
      exact ⟨rfl, World.grownBy.refl _ _⟩
  · simp only [Value.slice.injEq] at hv
    obtain ⟨rfl, -, rfl⟩ := hv
    have hB : Blk 5 w g cur.toList := by unfold Blk; simpa using hg
    have hlen : cur.toList.length = c := by simpa using hcs
    have hc63 : c ≤ 9223372036854775807 := by unfold maxLen at hcm; omega
    clear hg hcs htake hnc hcm hO
    go_enter Try.func40, Try.ntmps40
    go_wp2_with fail
    generalize cur.toList = cs at *
    go_loopw [3] (fun i wr => ∃ (j : Nat) (ds : List Value), j ≤ c ∧ i = .int .i64 j ∧ Blk 5 wr g ds ∧ Hid (ds.length = c) ∧ w.grownBy wr (some g)) (fun i _ => c - (intOf i).toNat)
    case atStart => exact ⟨0, cs, by omega, rfl, hB, hlen, World.grownBy.refl _ _⟩
    case round =>
      obtain ⟨j, ds, hj, rfl, hD, HL, hG⟩ := hrel
      by_cases hlt : j < c
      · obtain ⟨x, hx⟩ : ∃ x, ds[j]? = some x := ⟨_, List.getElem?_eq_getElem (by rw [HL.out]; exact hlt)⟩
        have hcell : wr.cell? ⟨g, j, none⟩ = some x := by rw [hD.cell, hx]
        have hfr := hD.frozen j
        have HS := Lib.hid (hD.set_ j (.int .u8 90))
        clear hx
        go_wp2_with fail
        go_roundw
        case rel => exact ⟨j + 1, ds.set j (.int .u8 90), by omega, by go_num, HS.out, by show _ = _; rw [List.length_set]; exact HL.out, ⟨hG.os, hG.tape, hG.output, by simpa [World.setCell] using hG.size, fun k hk hne => by rw [Below.heap_setCell _ _ _ _ (by simpa using hne)]; exact hG.block k hk hne⟩⟩
        case measure => simp [intOf]; omega
      · obtain rfl : j = c := by omega
        go_wp2_with fail
        go_end0
        exact ⟨rfl, hG⟩
end Go.Proofs.Ytafdgibkhefplaa.bytes

/- Plain words on slices of any one-cell elements in memory, and on slices of slices of bytes; laws of append for them. Conditions: those that each theorem names. -/
namespace Go.Proofs.Ytafdgibkhefplaa.kit
open Go.RowKit Go.Proofs.Ytafdgibkhefplaa.nums

/-- The slice at address A with n elements has the cells xs and lies below block B. -/
def RdV (w : World) (B : Nat) (A : Option Addr) (n : Nat) (xs : List Value) : Prop :=
  xs.length = n ∧ (0 < n → ∃ b o, A = some ⟨b, o, none⟩ ∧ b < B ∧ ∀ j, j < n → w.cell? ⟨b, o + j, none⟩ = xs[j]?)
def OwnV (E : TypeId) (w : World) (base : Nat) (v : Value) (xs : List Value) : Prop := w.ownsRow base E 1 v xs.length xs

section
variable {w w' : World} {B B' n : Nat} {A : Option Addr} {xs : List Value}
theorem RdV.keep (h : RdV w B A n xs) (hk : ∀ b o, b < B → w'.cell? ⟨b, o, none⟩ = w.cell? ⟨b, o, none⟩) : RdV w' B A n xs :=
  ⟨h.1, fun hn => by
    obtain ⟨b, o, e, hb, hc⟩ := h.2 hn
    exact ⟨b, o, e, hb, fun j hj => (hk b (o + j) hb).trans (hc j hj)⟩⟩
theorem RdV.below (h : RdV w B A n xs) (hb : Below B w w') : RdV w' B A n xs := h.keep fun b o hlt => hb.cell (p := ⟨b, o, none⟩) hlt
theorem RdV.more (h : RdV w B A n xs) (hB : B ≤ B') : RdV w B' A n xs :=
  ⟨h.1, fun hn => by
    obtain ⟨b, o, e, hb, hc⟩ := h.2 hn
    exact ⟨b, o, e, by omega, hc⟩⟩
theorem RdV.on (h : RdV w B A n xs) (hb : Below B w w') (hB : B ≤ B') : RdV w' B' A n xs := (h.below hb).more hB
theorem RdV.nil (w : World) (B : Nat) (A : Option Addr) : RdV w B A 0 [] := ⟨rfl, fun h => absurd h (by omega)⟩
theorem RdV.pos (h : RdV w B A n xs) : 0 < xs.length → ∃ ad, A = some ad ∧ ∀ j u, xs[j]? = some u → w.cell? (ad.add j) = some u := by
  intro hl
  rw [h.1] at hl
  obtain ⟨b, o, e, _, hc⟩ := h.2 hl
  refine ⟨⟨b, o, none⟩, e, fun j u hu => ?_⟩
  have hj : j < xs.length := (List.getElem?_eq_some_iff.1 hu).1
  rw [Addr.add_lit, ← hu]
  exact hc j (by rw [← h.1]; exact hj)
/-- The cell that an index reads. -/
theorem RdV.at_ (h : RdV w B A n xs) {j : Nat} (hj : j < n) : ∃ b o u, A = some ⟨b, o, none⟩ ∧ xs[j]? = some u ∧ w.cell? ⟨b, o + j, none⟩ = some u := by
  obtain ⟨b, o, e, _, hc⟩ := h.2 (by omega)
  have hl : j < xs.length := by have := h.1; omega
  exact ⟨b, o, xs[j], e, List.getElem?_eq_getElem hl, by rw [hc j hj, List.getElem?_eq_getElem hl]⟩
theorem RdV.one (w : World) (E : TypeId) (z : Value) : RdV (w.alloc (.cells #[z] E)) (w.heap.size + 1) (some ⟨w.heap.size, 0, none⟩) 1 [z] := by
  refine ⟨rfl, fun _ => ⟨_, 0, rfl, by omega, fun j hj => ?_⟩⟩
  obtain rfl : j = 0 := by omega
  have hb : Blk E (w.alloc (.cells #[z] E)) w.heap.size [z] := heap_alloc_new w _
  rw [hb.cell]
end

section
variable {E : TypeId} {w w' : World} {base base' : Nat} {v : Value} {xs : List Value}
theorem OwnV.nil (E : TypeId) (w : World) (base : Nat) : OwnV E w base (.slice none 0 0) [] := World.ownsRow_nil w base E 1
theorem OwnV.lt (h : OwnV E w base v xs) : ∀ k, v.ownBlock = some k → base ≤ k ∧ k < w.heap.size := World.ownsRow.lt h
theorem OwnV.slice (h : OwnV E w base v xs) : ∃ A c, v = .slice A xs.length c ∧ xs.length ≤ c ∧ c ≤ maxLen ∧ RdV w w.heap.size A xs.length xs := by
  have h0 := h
  rcases h.2 with ⟨hv, hn⟩ | ⟨g, cap, cur, rfl, hb, hg, hnc, hcm, hcs, htake⟩
  · exact ⟨none, 0, by rw [hv, hn], by omega, by omega, rfl, fun hp => absurd hp (by omega)⟩
  · refine ⟨_, cap, rfl, hnc, hcm, rfl, fun _ => ⟨g, 0, rfl, (Array.getElem?_eq_some_iff.1 hg).1, fun j hj => ?_⟩⟩
    rw [Nat.zero_add, World.ownsRow.cellAt (show w.ownsRow base E 1 _ _ _ from h0) j (by omega)]
theorem OwnV.below (h : OwnV E w base v xs) (hb : Below w.heap.size w w') : OwnV E w' base v xs := by
  refine ⟨h.1, ?_⟩
  rcases h.2 with hn | ⟨g, cap, cur, rfl, hbg, hg, r⟩
  · exact .inl hn
  · exact .inr ⟨g, cap, cur, rfl, hbg, by rw [hb.block g (Array.getElem?_eq_some_iff.1 hg).1]; exact hg, r⟩
theorem OwnV.more (h : OwnV E w base v xs) (hB : base' ≤ base) : OwnV E w base' v xs := by
  refine ⟨h.1, ?_⟩
  rcases h.2 with hn | ⟨g, cap, cur, rfl, hb, r⟩
  · exact .inl hn
  · exact .inr ⟨g, cap, cur, rfl, by omega, r⟩
theorem OwnV.alloc (h : OwnV E w base v xs) (o : Obj) : OwnV E (w.alloc o) base v xs := h.below ((Below.refl _ _).alloc (Nat.le_refl _) o)
end

theorem run_append_v {P : Program} (w : World) (base : Nat) (t ty e : TypeId) (z : Value) (by_ : Nat) (ht : P.underlying t = some (.slice e)) (h2 : (P.info? e).map (fun i => (i.zero, i.size, i.bytes)) = some (some z, 1, by_)) (hz : z.cells.size = 1)
    (A : Option Addr) (n c : Nat) (xs : List Value) (hn : xs.length = n) (hown : OwnV e w base (.slice A n c) xs)
    (B : Nat) (X : Option Addr) (m xc : Nat) (news : List Value) (hR : RdV w B X m news) (h1 : ∀ u ∈ news, u.oneCell' = true) (hb : (n + m) * by_ ≤ 140737488355328) (h63 : n + m ≤ maxLen) (hbase : base ≤ w.heap.size) :
    ∃ A' c' w', (Builtin.append_ #[t, t] ty #[.slice A n c, .slice X m xc]).run P w = .ok (.slice A' (n + m) c') w' ∧ OwnV e w' base (.slice A' (n + m) c') (xs ++ news) ∧ Below base w w' ∧ w.grownBy w' (Value.ownBlock (.slice A n c)) := by
  obtain ⟨i, hi, hz0, hz1, hz2⟩ := info_parts h2
  have hm : news.length = m := hR.1
  have hown' : w.ownsRow base e 1 (.slice A n c) n xs := by unfold OwnV at hown; rw [hn] at hown; exact hown
  have hfin : ∀ (v' : Value) (w' : World), w'.ownsRow base e 1 v' (n + m) (xs ++ news) → w.grownBy w' (Value.ownBlock (.slice A n c)) → ∃ A' c', v' = .slice A' (n + m) c' ∧ OwnV e w' base (.slice A' (n + m) c') (xs ++ news) ∧ Below base w w' := by
    intro v' w' h hg
    have hO : OwnV e w' base v' (xs ++ news) := by
      unfold OwnV; rw [List.length_append, hn, hm]; exact h
    obtain ⟨A', c', e1, _⟩ := hO.slice
    rw [List.length_append, hn, hm] at e1
    refine ⟨A', c', e1, by rw [← e1]; exact hO, ?_⟩
    exact (Below.refl base w).grown hg hbase (fun k hk => (hown.lt k hk).1)
  rcases X with _ | ad
  · have hm0 : m = 0 := by
      rcases Nat.eq_zero_or_pos m with h0 | h0
      · exact h0
      · obtain ⟨b, o, h, _⟩ := hR.2 h0
        cases h
    subst hm0
    have hnews : news = [] := List.eq_nil_of_length_eq_zero hm
    subst hnews
    refine ⟨A, c, w, run_append_src_none w base t ty e i ht hi _ n xs hown' xc, ?_, Below.refl _ _, World.grownBy.refl _ _⟩
    simpa using hown
  · have hcells : ∀ j u, news[j]? = some u → w.cell? (ad.add j) = some u := by
      intro j u hu
      have hp : 0 < news.length := by have := (List.getElem?_eq_some_iff.1 hu).1; omega
      obtain ⟨ad', h, hc⟩ := hR.pos hp
      injection h with h
      subst h
      exact hc j u hu
    obtain ⟨v', w', hrun, h3, h4, _⟩ := run_append_own (P := P) w base t ty e i z 1 by_ ht hi hz0 hz1 hz2 hz (by omega) _ n xs hown' ad m xc news (by omega) hcells h1 h63 hb hbase
    obtain ⟨A', c', rfl, hO, hB⟩ := hfin v' w' h3 h4
    exact ⟨A', c', w', hrun, hO, hB, h4⟩

/-- 'append(out, xs...)': out is the call's own, its elements of one cell. -/
theorem wpList_append_v {P : Program} {w : World} {ops : Array Oper} {rest : List Oper} {o : Oper} {a : Act} {Q : Exit → Act → World → Prop} (hgd : o.guard = none) (s x : Operand) (t : TypeId)
    (ho : o.op = .call { callee := .builtin .append, args := #[s, x], argTypes := #[t, t] }) (base : Nat) (e : TypeId) (z : Value) (by_ : Nat) (ht : P.underlying t = some (.slice e)) (h2 : (P.info? e).map (fun i => (i.zero, i.size, i.bytes)) = some (some z, 1, by_)) (hz : z.cells.size = 1)
    (A : Option Addr) (n c : Nat) (xs : List Value) (hn : xs.length = n) (hs : a.eval s = .slice A n c) (hown : OwnV e w base (.slice A n c) xs)
    (B : Nat) (X : Option Addr) (m xc : Nat) (news : List Value) (hx : a.eval x = .slice X m xc) (hR : RdV w B X m news) (h1 : ∀ u ∈ news, u.oneCell' = true) (hb : (n + m) * by_ ≤ 140737488355328) (h63 : n + m ≤ maxLen) (hbase : base ≤ w.heap.size)
    (h : ∀ A' c' w', OwnV e w' base (.slice A' (n + m) c') (xs ++ news) → Below base w w' → w.grownBy w' (Value.ownBlock (.slice A n c)) → wpList P ops Q rest (a.put o.dst (.slice A' (n + m) c')) w') : wpList P ops Q (o :: rest) a w := by
  refine wpList_plain hgd fun K hK => ?_
  obtain ⟨A', c', w', hrun, h3, h4, h5⟩ := run_append_v (P := P) w base t o.type e z by_ ht h2 hz A n c xs hn hown B X m xc news hR h1 hb h63 hbase
  unfold Oper.wp execOp
  simp only [ho, resolve, invoke, builtin, Sem.run_bind, Sem.run_pure, Result.andThen_ok, List.map_toArray, List.map_cons, List.map_nil, hs, hx, hrun]
  exact hK _ _ (h A' c' w' h3 h4 h5)

/-- The value x is a slice that reads as the bytes l, below block B. -/
def Sl (w : World) (B : Nat) (x : Value) (l : List Int) : Prop := ∃ A c, x = .slice A l.length c ∧ l.length ≤ c ∧ c ≤ maxLen ∧ Rd w B A l.length l
theorem Sl.below {w w' : World} {B : Nat} {x : Value} {l : List Int} (h : Sl w B x l) (hb : Below B w w') : Sl w' B x l := by
  obtain ⟨A, c, e, h1, h2, hR⟩ := h
  exact ⟨A, c, e, h1, h2, hR.below hb⟩
theorem Sl.more {w : World} {B B' : Nat} {x : Value} {l : List Int} (h : Sl w B x l) (hB : B ≤ B') : Sl w B' x l := by
  obtain ⟨A, c, e, h1, h2, hR⟩ := h
  exact ⟨A, c, e, h1, h2, hR.more hB⟩
/-- The slice at address A with n elements reads as the lists of bytes L, below block B: they, and the slices themselves. -/
def RdS (w : World) (B : Nat) (A : Option Addr) (n : Nat) (L : List (List Int)) : Prop :=
  ∃ xs : List Value, RdV w B A n xs ∧ L.length = n ∧ ∀ (j : Nat) (x : Value) (l : List Int), xs[j]? = some x → L[j]? = some l → Sl w B x l
section
variable {w w' : World} {B B' n : Nat} {A : Option Addr} {L : List (List Int)}
theorem RdS.len (h : RdS w B A n L) : L.length = n := by obtain ⟨_, _, h, _⟩ := h; exact h
theorem RdS.below (h : RdS w B A n L) (hb : Below B w w') : RdS w' B A n L := by
  obtain ⟨xs, h1, h2, h3⟩ := h
  exact ⟨xs, h1.below hb, h2, fun j x l hx hl => (h3 j x l hx hl).below hb⟩
theorem RdS.more (h : RdS w B A n L) (hB : B ≤ B') : RdS w B' A n L := by
  obtain ⟨xs, h1, h2, h3⟩ := h
  exact ⟨xs, h1.more hB, h2, fun j x l hx hl => (h3 j x l hx hl).more hB⟩
theorem RdS.on (h : RdS w B A n L) (hb : Below B w w') (hB : B ≤ B') : RdS w' B' A n L := (h.below hb).more hB
/-- What an index reads: a slice of bytes. -/
theorem RdS.at_ (h : RdS w B A n L) {j : Nat} (hj : j < n) : ∃ b o Aj cj l, A = some ⟨b, o, none⟩ ∧ L[j]? = some l ∧ w.cell? ⟨b, o + j, none⟩ = some (.slice Aj l.length cj) ∧ l.length ≤ cj ∧ cj ≤ maxLen ∧ Rd w B Aj l.length l := by
  obtain ⟨xs, h1, h2, h3⟩ := h
  obtain ⟨b, o, u, e, hu, hc⟩ := h1.at_ hj
  have hl : L[j]? = some L[j] := List.getElem?_eq_getElem (by omega)
  obtain ⟨Aj, cj, rfl, g1, g2, hR⟩ := h3 j u _ hu hl
  exact ⟨b, o, Aj, cj, L[j], e, hl, hc, g1, g2, hR⟩
theorem RdS.nil (w : World) (B : Nat) (A : Option Addr) : RdS w B A 0 [] := ⟨[], RdV.nil w B A, rfl, fun j x l hx => by simp at hx⟩
end
/-- Each list is of bytes, and not too long. -/
def AllB (L : List (List Int)) : Prop := ∀ l ∈ L, Byt l ∧ l.length ≤ 1099511627776
theorem AllB.flat {L : List (List Int)} (h : AllB L) : Byt L.flatten := fun x hx => by
  obtain ⟨l, hl, hxl⟩ := List.mem_flatten.1 hx
  exact (h l hl).1 x hxl
theorem AllB.take {L : List (List Int)} (h : AllB L) (j : Nat) : AllB (L.take j) := fun l hl => h l (List.mem_of_mem_take hl)
theorem flat_take {L : List (List Int)} {j : Nat} {l : List Int} (h : L[j]? = some l) : (L.take (j + 1)).flatten = (L.take j).flatten ++ l := by
  obtain ⟨hj, rfl⟩ := List.getElem?_eq_some_iff.1 h
  rw [List.take_succ_eq_append_getElem hj, List.flatten_append]
  simp

theorem flat_le (L : List (List Int)) (j : Nat) : (L.take j).flatten.length ≤ L.flatten.length := by
  conv => rhs; rw [← List.take_append_drop j L, List.flatten_append, List.length_append]
  omega

end Go.Proofs.Ytafdgibkhefplaa.kit

/- What operations on a disk are, as plain values, and slices of them in memory. Conditions: none. -/
namespace Go.Proofs.Ytafdgibkhefplaa.kit
open Go.RowKit Go.Proofs.Ytafdgibkhefplaa.nums
set_option linter.unusedVariables false

/-- An operation as it is handed in. -/
structure OpL where
  kind : Int
  f : Int
  n : Int
  b : List Int
  keep : List Int
def I64 (z : Int) : Prop := -9223372036854775808 ≤ z ∧ z ≤ 9223372036854775807
/-- Its numbers are in range, its bytes are bytes. -/
structure OpOk (x : OpL) : Prop where
  kind : I64 x.kind
  f : I64 x.f
  n : I64 x.n
  b : Byt x.b
  keep : ∀ z ∈ x.keep, I64 z
/-- The values of its five cells. -/
structure OpV (w : World) (B : Nat) (x : OpL) (v3 v4 : Value) : Prop where
  b : Sl w B v3 x.b
  keep : ∃ A c, v4 = .slice A x.keep.length c ∧ x.keep.length ≤ c ∧ c ≤ maxLen ∧ RdV w B A x.keep.length (x.keep.map (Value.int .i64))
/-- The operation x lies at ⟨b, o⟩. -/
def OpAt (w : World) (B b o : Nat) (x : OpL) : Prop :=
  w.cell? ⟨b, o, none⟩ = some (.int .i64 x.kind) ∧ w.cell? ⟨b, o + 1, none⟩ = some (.int .i64 x.f) ∧ w.cell? ⟨b, o + 2, none⟩ = some (.int .i64 x.n) ∧
  ∃ v3 v4, w.cell? ⟨b, o + 3, none⟩ = some v3 ∧ w.cell? ⟨b, o + 4, none⟩ = some v4 ∧ OpV w B x v3 v4
/-- The slice at A with n elements reads as the operations os, below block B. -/
def RdOp (w : World) (B : Nat) (A : Option Addr) (n : Nat) (os : List OpL) : Prop :=
  os.length = n ∧ (0 < n → ∃ b o, A = some ⟨b, o, none⟩ ∧ b < B ∧ ∀ (j : Nat) (x : OpL), os[j]? = some x → OpAt w B b (o + j * 5) x)
section
variable {w w' : World} {B B' : Nat}
theorem OpV.below {x : OpL} {v3 v4 : Value} (h : OpV w B x v3 v4) (hb : Below B w w') : OpV w' B x v3 v4 := by
  obtain ⟨A, c, e, h1, h2, hR⟩ := h.keep
  exact ⟨h.b.below hb, A, c, e, h1, h2, hR.below hb⟩
theorem OpV.more {x : OpL} {v3 v4 : Value} (h : OpV w B x v3 v4) (hB : B ≤ B') : OpV w B' x v3 v4 := by
  obtain ⟨A, c, e, h1, h2, hR⟩ := h.keep
  exact ⟨h.b.more hB, A, c, e, h1, h2, hR.more hB⟩
theorem OpAt.below {b o : Nat} {x : OpL} (h : OpAt w B b o x) (hlt : b < B) (hb : Below B w w') : OpAt w' B b o x := by
  obtain ⟨h0, h1, h2, v3, v4, h3, h4, h5⟩ := h
  have hc := fun i => hb.cell (p := ⟨b, i, none⟩) hlt
  exact ⟨by rw [hc]; exact h0, by rw [hc]; exact h1, by rw [hc]; exact h2, v3, v4, by rw [hc]; exact h3, by rw [hc]; exact h4, h5.below hb⟩
theorem RdOp.below {A : Option Addr} {n : Nat} {os : List OpL} (h : RdOp w B A n os) (hb : Below B w w') : RdOp w' B A n os :=
  ⟨h.1, fun hn => by
    obtain ⟨b, o, e, hlt, hc⟩ := h.2 hn
    exact ⟨b, o, e, hlt, fun j x hx => (hc j x hx).below hlt hb⟩⟩
theorem RdOp.at_ {A : Option Addr} {n : Nat} {os : List OpL} (h : RdOp w B A n os) {j : Nat} (hj : j < n) : ∃ b o x, A = some ⟨b, o, none⟩ ∧ b < B ∧ os[j]? = some x ∧ OpAt w B b (o + j * 5) x := by
  obtain ⟨b, o, e, hlt, hc⟩ := h.2 (by omega)
  have hlen := h.1
  have hx : os[j]? = some (os[j]) := List.getElem?_eq_getElem (by omega)
  exact ⟨b, o, os[j], e, hlt, hx, hc j _ hx⟩
end
end Go.Proofs.Ytafdgibkhefplaa.kit

/- What operations on a log are, as plain values, and slices of them in memory. Conditions: none. -/
namespace Go.Proofs.Ytafdgibkhefplaa.kit
open Go.RowKit Go.Proofs.Ytafdgibkhefplaa.nums
set_option linter.unusedVariables false

/-- An operation as it is handed in. -/
structure OpW where
  kind : Int
  n : Int
  made : Bool
  b : List Int
  l : List (List Int)
  keep : List Int
/-- Its numbers are in range, its bytes are bytes. -/
structure OpWOk (x : OpW) : Prop where
  kind : I64 x.kind
  n : I64 x.n
  b : Byt x.b
  l : ∀ r ∈ x.l, Byt r
  keep : ∀ z ∈ x.keep, I64 z
/-- The values of its slices' cells. -/
structure OpWV (w : World) (B : Nat) (x : OpW) (v3 v4 v5 : Value) : Prop where
  b : Sl w B v3 x.b
  l : ∃ A c, v4 = .slice A x.l.length c ∧ x.l.length ≤ c ∧ c ≤ maxLen ∧ RdS w B A x.l.length x.l
  keep : ∃ A c, v5 = .slice A x.keep.length c ∧ x.keep.length ≤ c ∧ c ≤ maxLen ∧ RdV w B A x.keep.length (x.keep.map (Value.int .i64))
/-- The operation x lies at ⟨b, o⟩. -/
def OpWAt (w : World) (B b o : Nat) (x : OpW) : Prop :=
  w.cell? ⟨b, o, none⟩ = some (.int .i64 x.kind) ∧ w.cell? ⟨b, o + 1, none⟩ = some (.int .i64 x.n) ∧ w.cell? ⟨b, o + 2, none⟩ = some (.bool x.made) ∧
  ∃ v3 v4 v5, w.cell? ⟨b, o + 3, none⟩ = some v3 ∧ w.cell? ⟨b, o + 4, none⟩ = some v4 ∧ w.cell? ⟨b, o + 5, none⟩ = some v5 ∧ OpWV w B x v3 v4 v5
/-- The slice at A with n elements reads as the operations os, below block B. -/
def RdOpW (w : World) (B : Nat) (A : Option Addr) (n : Nat) (os : List OpW) : Prop :=
  os.length = n ∧ (0 < n → ∃ b o, A = some ⟨b, o, none⟩ ∧ b < B ∧ ∀ (j : Nat) (x : OpW), os[j]? = some x → OpWAt w B b (o + j * 6) x)
section
variable {w w' : World} {B B' : Nat}
theorem OpWV.below {x : OpW} {v3 v4 v5 : Value} (h : OpWV w B x v3 v4 v5) (hb : Below B w w') : OpWV w' B x v3 v4 v5 := by
  obtain ⟨A, c, e, h1, h2, hR⟩ := h.keep
  obtain ⟨A', c', e', h1', h2', hR'⟩ := h.l
  exact ⟨h.b.below hb, ⟨A', c', e', h1', h2', hR'.below hb⟩, A, c, e, h1, h2, hR.below hb⟩
theorem OpWV.more {x : OpW} {v3 v4 v5 : Value} (h : OpWV w B x v3 v4 v5) (hB : B ≤ B') : OpWV w B' x v3 v4 v5 := by
  obtain ⟨A, c, e, h1, h2, hR⟩ := h.keep
  obtain ⟨A', c', e', h1', h2', hR'⟩ := h.l
  exact ⟨h.b.more hB, ⟨A', c', e', h1', h2', hR'.more hB⟩, A, c, e, h1, h2, hR.more hB⟩
theorem OpWAt.below {b o : Nat} {x : OpW} (h : OpWAt w B b o x) (hlt : b < B) (hb : Below B w w') : OpWAt w' B b o x := by
  obtain ⟨h0, h1, h2, v3, v4, v5, h3, h4, h5, h6⟩ := h
  have hc := fun i => hb.cell (p := ⟨b, i, none⟩) hlt
  exact ⟨by rw [hc]; exact h0, by rw [hc]; exact h1, by rw [hc]; exact h2, v3, v4, v5, by rw [hc]; exact h3, by rw [hc]; exact h4, by rw [hc]; exact h5, h6.below hb⟩
theorem RdOpW.below {A : Option Addr} {n : Nat} {os : List OpW} (h : RdOpW w B A n os) (hb : Below B w w') : RdOpW w' B A n os :=
  ⟨h.1, fun hn => by
    obtain ⟨b, o, e, hlt, hc⟩ := h.2 hn
    exact ⟨b, o, e, hlt, fun j x hx => (hc j x hx).below hlt hb⟩⟩
theorem RdOpW.at_ {A : Option Addr} {n : Nat} {os : List OpW} (h : RdOpW w B A n os) {j : Nat} (hj : j < n) : ∃ b o x, A = some ⟨b, o, none⟩ ∧ b < B ∧ os[j]? = some x ∧ OpWAt w B b (o + j * 6) x := by
  obtain ⟨b, o, e, hlt, hc⟩ := h.2 (by omega)
  have hlen := h.1
  have hx : os[j]? = some (os[j]) := List.getElem?_eq_getElem (by omega)
  exact ⟨b, o, os[j], e, hlt, hx, hc j _ hx⟩
end
end Go.Proofs.Ytafdgibkhefplaa.kit

/- How a slice of ints, and a slice of slices of bytes, that comes in reads, in the words of the kit. No condition. -/
namespace Go.Proofs.Ytafdgibkhefplaa.frame
open Go.ChangeShapes Go.WideShapes Go.ChangeAt Go.RowKit Go.Proofs.Ytafdgibkhefplaa.kit Go.Proofs.Ytafdgibkhefplaa.nums

theorem gather {α : Type} {P : Nat → α → Prop} : ∀ n : Nat, (∀ i, i < n → ∃ x, P i x) → ∃ L : List α, L.length = n ∧ ∀ i x, L[i]? = some x → P i x
  | 0, _ => ⟨[], rfl, fun i x h => by simp at h⟩
  | n + 1, h => by
    obtain ⟨L, hl, hL⟩ := gather n (fun i hi => h i (by omega))
    obtain ⟨x, hx⟩ := h n (by omega)
    refine ⟨L ++ [x], by simp [hl], fun i y hy => ?_⟩
    by_cases hi : i < n
    · rw [List.getElem?_append_left (by omega)] at hy; exact hL i y hy
    · have hi2 : i < (L ++ [x]).length := (List.getElem?_eq_some_iff.1 hy).1
      simp [hl] at hi2
      obtain rfl : i = n := by omega
      rw [List.getElem?_append_right (by omega), hl, Nat.sub_self] at hy
      simp at hy
      subst hy; exact hx

theorem rdi_of_trod {H : Type} {enc : TypeId × Value → H} {W : World} {A : Option Addr} {len cap : Nat} {d : DataW H} {p : List MemPlace}
    (h : DataW.Trod enc Try.prog W 0 (fun _ => true) true 37 (.slice A len cap) d p) : ∃ zs : List Int, RdV W W.heap.size A len (zs.map (Value.int .i64)) ∧ (∀ z ∈ zs, -9223372036854775808 ≤ z ∧ z ≤ 9223372036854775807) ∧ len ≤ cap ∧ cap ≤ maxLen := by
  obtain ⟨fuel, hf⟩ := h
  rcases open_ints Try.underlying37 Try.underlying3 (by kernel_rfl) hf with ⟨hcs, _⟩ | ⟨x, l, c, zs, hcs, _, hl, hm, hz, _, hcell, hwz⟩
  · simp [Value.cells] at hcs
    obtain ⟨rfl, rfl, rfl⟩ := hcs
    exact ⟨[], RdV.nil _ _ _, fun z hz => (by cases hz), Nat.le_refl _, by unfold maxLen; omega⟩
  · simp [Value.cells] at hcs
    obtain ⟨rfl, rfl, rfl⟩ := hcs
    have hz' : zs.length = cap := by simpa using hz
    refine ⟨zs.take len, ⟨by rw [List.length_map, List.length_take]; omega, fun hp => ?_⟩, fun n hn => ?_, hl, hm⟩
    · have h0 := hcell 0 (by omega)
      obtain ⟨b, o, spot⟩ := x
      have hspot : spot = none := by simpa [Addr.add] using World.cell?_spot h0
      subst hspot
      refine ⟨b, o, rfl, World.block_lt_of_cell? W (a := ⟨b, o, none⟩) (u := .int .i64 (zs.getD 0 0)) (by simpa [Addr.add] using h0), fun j hj => ?_⟩
      have hj' := hcell j (by omega)
      rw [Addr.add_lit] at hj'
      rw [hj', List.getElem?_map, List.getElem?_take, if_pos hj]
      simp [List.getD, show j < zs.length by omega]
    · have := hwz n (List.mem_of_mem_take hn)
      simpa [Lit.wf, IntKind.min, IntKind.max, IntKind.signed, IntKind.bits] using this

theorem sl_of_trod {H : Type} {enc : TypeId × Value → H} {W : World} {v : Value} {n : Nat} {y : DataW H × List MemPlace}
    (h : DataW.trod enc Try.prog W 0 (fun _ => true) true n 35 [v] = some y) : ∃ l, Sl W W.heap.size v l ∧ Byt l := by
  have key : ∀ (A : Option Addr) (len cap : Nat), v = .slice A len cap → ∃ l, Sl W W.heap.size v l ∧ Byt l := fun A len cap e => by
    subst e
    obtain ⟨l, hR, hY, h1, h2⟩ := rd_of_trod (d := y.1) (p := y.2) (A := A) (len := len) (cap := cap) ⟨n, h⟩
    obtain rfl : len = l.length := hR.len.symm
    exact ⟨l, ⟨A, cap, rfl, h1, h2, hR⟩, hY⟩
  rcases open_ints Try.underlying35 Try.underlying5 (by kernel_rfl) h with ⟨hcs, _⟩ | ⟨x, l, c, zs, hcs, _⟩
  · simp at hcs; exact key _ _ _ hcs
  · simp at hcs; exact key _ _ _ hcs

theorem rds_of_trod {H : Type} {enc : TypeId × Value → H} {W : World} {A : Option Addr} {len cap : Nat} {d : DataW H} {p : List MemPlace}
    (h : DataW.Trod enc Try.prog W 0 (fun _ => true) true 36 (.slice A len cap) d p) : ∃ L : List (List Int), RdS W W.heap.size A len L ∧ (∀ l ∈ L, Byt l) ∧ len ≤ cap ∧ cap ≤ maxLen := by
  obtain ⟨fuel, hf⟩ := h
  rcases DataW.trod_slice Try.underlying36 hf with ⟨hcs, _⟩ | ⟨a, l, c, elems, rest, n, _, hcs, _, _, hl, hm, hlen, hel, _⟩
  · simp [Value.cells] at hcs
    obtain ⟨rfl, rfl, rfl⟩ := hcs
    exact ⟨[], RdS.nil _ _ _, fun z hz => (by cases hz), Nat.le_refl _, by unfold maxLen; omega⟩
  · simp [Value.cells] at hcs
    obtain ⟨rfl, rfl, rfl⟩ := hcs
    have hc : Try.prog.cellsOf 35 = 1 := by kernel_rfl
    have each : ∀ i, i < len → ∃ x : Value × List Int, W.cell? (a.add i) = some x.1 ∧ Sl W W.heap.size x.1 x.2 ∧ Byt x.2 := fun i hi => by
      have hE := hel i hi
      rw [hc, Nat.mul_one] at hE
      have hy : elems[i]? = some elems[i] := List.getElem?_eq_getElem (by omega)
      rw [hy, Option.bind_eq_some_iff] at hE
      obtain ⟨c1, hc1, hy1⟩ := hE
      obtain ⟨v, rfl⟩ : ∃ v, c1 = [v] := by
        have h1 : c1.length = 1 := (World.cells?_some hc1).2.1
        exact List.length_eq_one_iff.1 h1
      obtain ⟨m, h1, h2⟩ := sl_of_trod hy1
      exact ⟨(v, m), cell_of_cells?_one hc1, h1, h2⟩
    obtain ⟨L, hL, hP⟩ := gather len each
    refine ⟨L.map Prod.snd, ⟨L.map Prod.fst, ⟨by simp [hL], fun hp => ?_⟩, by simp [hL], fun j x m hx hm => ?_⟩, fun m hm => ?_, hl, hm⟩
    · obtain ⟨v0, h0, _⟩ := each 0 hp
      obtain ⟨b, o, spot⟩ := a
      have hspot : spot = none := by simpa [Addr.add] using World.cell?_spot h0
      subst hspot
      refine ⟨b, o, rfl, World.block_lt_of_cell? W (a := ⟨b, o, none⟩) (u := v0.1) (by simpa [Addr.add] using h0), fun j hj => ?_⟩
      have hx : L[j]? = some L[j] := List.getElem?_eq_getElem (by omega)
      have hj' := (hP j _ hx).1
      rw [Addr.add_lit] at hj'
      rw [hj', List.getElem?_map, hx]; rfl
    · rw [List.getElem?_map] at hx hm
      cases hy : L[j]? with
      | none => rw [hy] at hx; cases hx
      | some y =>
        rw [hy] at hx hm
        simp at hx hm
        subst hx; subst hm
        exact (hP j y hy).2.1
    · obtain ⟨y, hy, rfl⟩ := List.mem_map.1 hm
      obtain ⟨j, hj⟩ := List.getElem?_of_mem hy
      exact (hP j y hj).2.2
end Go.Proofs.Ytafdgibkhefplaa.frame

/- How a slice of truths that comes in reads, in the words of the kit. No condition. -/
namespace Go.Proofs.Ytafdgibkhefplaa.frame
open Go.ChangeShapes Go.WideShapes Go.ChangeAt Go.RowKit Go.Proofs.Ytafdgibkhefplaa.kit Go.Proofs.Ytafdgibkhefplaa.nums

theorem rdb_of_trod {H : Type} {enc : TypeId × Value → H} {W : World} {A : Option Addr} {len cap : Nat} {d : DataW H} {p : List MemPlace}
    (h : DataW.Trod enc Try.prog W 0 (fun _ => true) true 54 (.slice A len cap) d p) : ∃ zs : List Bool, RdV W W.heap.size A len (zs.map Value.bool) ∧ True ∧ len ≤ cap ∧ cap ≤ maxLen := by
  obtain ⟨fuel, hf⟩ := h
  rcases Deep.open_bools Try.underlying54 Try.underlying4 (by kernel_rfl) hf with ⟨hcs, _⟩ | ⟨x, l, c, B, hcs, _, hl, hm, _, hcell⟩
  · simp [Value.cells] at hcs
    obtain ⟨rfl, rfl, rfl⟩ := hcs
    exact ⟨[], RdV.nil _ _ _, trivial, Nat.le_refl _, by unfold maxLen; omega⟩
  · simp [Value.cells] at hcs
    obtain ⟨rfl, rfl, rfl⟩ := hcs
    refine ⟨(List.range len).map B, ⟨by simp, fun hp => ?_⟩, trivial, hl, hm⟩
    have h0 := hcell 0 (by omega)
    obtain ⟨b, o, spot⟩ := x
    have hspot : spot = none := by simpa [Addr.add] using World.cell?_spot h0
    subst hspot
    refine ⟨b, o, rfl, World.block_lt_of_cell? W (a := ⟨b, o, none⟩) (u := .bool (B 0)) (by simpa [Addr.add] using h0), fun j hj => ?_⟩
    have hj' := hcell j (by omega)
    rw [Addr.add_lit] at hj'
    rw [hj']
    simp [hj]
end Go.Proofs.Ytafdgibkhefplaa.frame

/- How a slice of operations on a disk that comes in reads, in the words of the kit. No condition. -/
namespace Go.Proofs.Ytafdgibkhefplaa.frame
open Go.ChangeShapes Go.WideShapes Go.ChangeAt Go.RowKit Go.Proofs.Ytafdgibkhefplaa.kit Go.Proofs.Ytafdgibkhefplaa.nums

theorem i64_of_trod {H : Type} {enc : TypeId × Value → H} {W : World} {n : Nat} {v : Value} {y : DataW H × List MemPlace}
    (h : DataW.trod enc Try.prog W 0 (fun _ => true) true n 3 [v] = some y) : ∃ z, v = .int .i64 z ∧ I64 z := by
  obtain ⟨z, h1, _, hw⟩ := DataW.trod_int Try.underlying3 h
  simp at h1
  exact ⟨z, h1, by unfold I64; simpa [Lit.wf, IntKind.min, IntKind.max, IntKind.signed, IntKind.bits] using hw⟩
theorem keep_of_trod {H : Type} {enc : TypeId × Value → H} {W : World} {v : Value} {n : Nat} {y : DataW H × List MemPlace}
    (h : DataW.trod enc Try.prog W 0 (fun _ => true) true n 37 [v] = some y) : ∃ zs : List Int, (∃ A c, v = .slice A zs.length c ∧ zs.length ≤ c ∧ c ≤ maxLen ∧ RdV W W.heap.size A zs.length (zs.map (Value.int .i64))) ∧ ∀ z ∈ zs, I64 z := by
  have key : ∀ (A : Option Addr) (len cap : Nat), v = .slice A len cap → ∃ zs : List Int, (∃ A c, v = .slice A zs.length c ∧ zs.length ≤ c ∧ c ≤ maxLen ∧ RdV W W.heap.size A zs.length (zs.map (Value.int .i64))) ∧ ∀ z ∈ zs, I64 z := fun A len cap e => by
    subst e
    obtain ⟨zs, hR, hz, h1, h2⟩ := rdi_of_trod (d := y.1) (p := y.2) (A := A) (len := len) (cap := cap) ⟨n, h⟩
    have hl : zs.length = len := by have := hR.1; rwa [List.length_map] at this
    subst hl
    exact ⟨zs, ⟨A, cap, rfl, h1, h2, hR⟩, hz⟩
  rcases open_ints Try.underlying37 Try.underlying3 (by kernel_rfl) h with ⟨hcs, _⟩ | ⟨x, l, c, zs, hcs, _⟩
  · simp at hcs; exact key _ _ _ hcs
  · simp at hcs; exact key _ _ _ hcs
theorem five {α : Type} (l : List α) (h : l.length = 5) : ∃ a b c d e, l = [a, b, c, d, e] := by
  match l, h with
  | [a, b, c, d, e], _ => exact ⟨a, b, c, d, e, rfl⟩
end Go.Proofs.Ytafdgibkhefplaa.frame

/- How a slice of operations on a log that comes in reads, in the words of the kit. No condition. -/
namespace Go.Proofs.Ytafdgibkhefplaa.frame
open Go.ChangeShapes Go.WideShapes Go.ChangeAt Go.RowKit Go.Proofs.Ytafdgibkhefplaa.kit Go.Proofs.Ytafdgibkhefplaa.nums

theorem bool_of_trod {H : Type} {enc : TypeId × Value → H} {W : World} {n : Nat} {v : Value} {y : DataW H × List MemPlace}
    (h : DataW.trod enc Try.prog W 0 (fun _ => true) true n 4 [v] = some y) : ∃ z, v = .bool z := by
  obtain ⟨z, h1, _⟩ := DataW.trod_bool Try.underlying4 h
  simp at h1
  exact ⟨z, h1⟩
theorem lists_of_trod {H : Type} {enc : TypeId × Value → H} {W : World} {v : Value} {n : Nat} {y : DataW H × List MemPlace}
    (h : DataW.trod enc Try.prog W 0 (fun _ => true) true n 36 [v] = some y) : ∃ L : List (List Int), (∃ A c, v = .slice A L.length c ∧ L.length ≤ c ∧ c ≤ maxLen ∧ RdS W W.heap.size A L.length L) ∧ ∀ l ∈ L, Byt l := by
  have key : ∀ (A : Option Addr) (len cap : Nat), v = .slice A len cap → ∃ L : List (List Int), (∃ A c, v = .slice A L.length c ∧ L.length ≤ c ∧ c ≤ maxLen ∧ RdS W W.heap.size A L.length L) ∧ ∀ l ∈ L, Byt l := fun A len cap e => by
    subst e
    obtain ⟨L, hR, hz, h1, h2⟩ := rds_of_trod (d := y.1) (p := y.2) (A := A) (len := len) (cap := cap) ⟨n, h⟩
    have hl : L.length = len := hR.len
    subst hl
    exact ⟨L, ⟨A, cap, rfl, h1, h2, hR⟩, hz⟩
  rcases DataW.trod_slice Try.underlying36 h with ⟨hcs, _⟩ | ⟨a, l, c, elems, rest, n, _, hcs, _⟩
  · simp at hcs; exact key _ _ _ hcs
  · simp at hcs; exact key _ _ _ hcs
theorem six {α : Type} (l : List α) (h : l.length = 6) : ∃ a b c d e f, l = [a, b, c, d, e, f] := by
  match l, h with
  | [a, b, c, d, e, f], _ => exact ⟨a, b, c, d, e, f, rfl⟩
theorem rdopsw_of_trod {H : Type} {enc : TypeId × Value → H} {W : World} {A : Option Addr} {len cap : Nat} {d : DataW H} {p : List MemPlace}
    (h : DataW.Trod enc Try.prog W 0 (fun _ => true) true 22 (.slice A len cap) d p) : ∃ os : List OpW, RdOpW W W.heap.size A len os ∧ (∀ x ∈ os, OpWOk x) ∧ len ≤ cap ∧ cap ≤ maxLen := by
  obtain ⟨fuel, hf⟩ := h
  rcases DataW.trod_slice Try.underlying22 hf with ⟨hcs, _⟩ | ⟨a, l, c, elems, rest, n, _, hcs, _, _, hl, hm, hlen, hel, _⟩
  · simp [Value.cells] at hcs
    obtain ⟨rfl, rfl, rfl⟩ := hcs
    exact ⟨[], ⟨rfl, fun h => absurd h (by omega)⟩, fun z hz => (by cases hz), Nat.le_refl _, by unfold maxLen; omega⟩
  · simp [Value.cells] at hcs
    obtain ⟨rfl, rfl, rfl⟩ := hcs
    have hc : Try.prog.cellsOf 39 = 6 := by kernel_rfl
    have each : ∀ i, i < len → ∃ x : OpW, (W.cell? ((a.add (i * 6)).add 0) = some (.int .i64 x.kind) ∧ W.cell? ((a.add (i * 6)).add 1) = some (.int .i64 x.n) ∧ W.cell? ((a.add (i * 6)).add 2) = some (.bool x.made) ∧ ∃ v3 v4 v5, W.cell? ((a.add (i * 6)).add 3) = some v3 ∧ W.cell? ((a.add (i * 6)).add 4) = some v4 ∧ W.cell? ((a.add (i * 6)).add 5) = some v5 ∧ OpWV W W.heap.size x v3 v4 v5) ∧ OpWOk x := fun i hi => by
      have hE := hel i hi
      rw [hc] at hE
      have hy : elems[i]? = some elems[i] := List.getElem?_eq_getElem (by omega)
      rw [hy, Option.bind_eq_some_iff] at hE
      obtain ⟨c1, hc1, hy1⟩ := hE
      obtain ⟨_, h6, hcell⟩ := World.cells?_some hc1
      obtain ⟨c0, c1', c2, c3, c4, c5, rfl⟩ := six c1 h6
      obtain ⟨xs, m, _, _, _, hxl, hF⟩ := DataW.trod_struct Try.underlying39 hy1
      obtain ⟨y0, y1, y2, y3, y4, y5, rfl⟩ := six xs hxl
      have k3 : Try.prog.cellsOf 3 = 1 := by kernel_rfl
      have kt : Try.prog.cellsOf 4 = 1 := by kernel_rfl
      have kb : Try.prog.cellsOf 35 = 1 := by kernel_rfl
      have kl : Try.prog.cellsOf 36 = 1 := by kernel_rfl
      have kk : Try.prog.cellsOf 37 = 1 := by kernel_rfl
      have f0 : DataW.trod enc Try.prog W 0 (fun _ => true) true m 3 [c0] = some y0 := by have h := hF 0 { name := "Kind", type := 3, offset := 0, embedded := false, tag := "", pkgPath := "", byteOffset := 0 } rfl; dsimp only at h; rw [k3] at h; exact h
      have f1 : DataW.trod enc Try.prog W 0 (fun _ => true) true m 3 [c1'] = some y1 := by have h := hF 1 { name := "N", type := 3, offset := 1, embedded := false, tag := "", pkgPath := "", byteOffset := 8 } rfl; dsimp only at h; rw [k3] at h; exact h
      have f2 : DataW.trod enc Try.prog W 0 (fun _ => true) true m 4 [c2] = some y2 := by have h := hF 2 { name := "Made", type := 4, offset := 2, embedded := false, tag := "", pkgPath := "", byteOffset := 16 } rfl; dsimp only at h; rw [kt] at h; exact h
      have f3 : DataW.trod enc Try.prog W 0 (fun _ => true) true m 35 [c3] = some y3 := by have h := hF 3 { name := "B", type := 35, offset := 3, embedded := false, tag := "", pkgPath := "", byteOffset := 24 } rfl; dsimp only at h; rw [kb] at h; exact h
      have f4 : DataW.trod enc Try.prog W 0 (fun _ => true) true m 36 [c4] = some y4 := by have h := hF 4 { name := "L", type := 36, offset := 4, embedded := false, tag := "", pkgPath := "", byteOffset := 48 } rfl; dsimp only at h; rw [kl] at h; exact h
      have f5 : DataW.trod enc Try.prog W 0 (fun _ => true) true m 37 [c5] = some y5 := by have h := hF 5 { name := "Keep", type := 37, offset := 5, embedded := false, tag := "", pkgPath := "", byteOffset := 72 } rfl; dsimp only at h; rw [kk] at h; exact h
      obtain ⟨z0, rfl, i0⟩ := i64_of_trod f0
      obtain ⟨z1, rfl, i1⟩ := i64_of_trod f1
      obtain ⟨z2, rfl⟩ := bool_of_trod f2
      obtain ⟨m3, hs3, hy3⟩ := sl_of_trod f3
      obtain ⟨L, hL, hyL⟩ := lists_of_trod f4
      obtain ⟨zs, hk, hz⟩ := keep_of_trod f5
      exact ⟨⟨z0, z1, z2, m3, L, zs⟩, ⟨hcell 0 (by omega), hcell 1 (by omega), hcell 2 (by omega), c3, c4, c5, hcell 3 (by omega), hcell 4 (by omega), hcell 5 (by omega), hs3, hL, hk⟩, ⟨i0, i1, hy3, hyL, hz⟩⟩
    obtain ⟨L, hL, hP⟩ := gather len each
    refine ⟨L, ⟨hL, fun hp => ?_⟩, fun x hx => ?_, hl, hm⟩
    · obtain ⟨x0, h0, _⟩ := each 0 hp
      have h00 := h0.1
      obtain ⟨b, o, spot⟩ := a
      have hspot : spot = none := by simpa [Addr.add] using World.cell?_spot h00
      subst hspot
      refine ⟨b, o, rfl, World.block_lt_of_cell? W (a := ⟨b, o, none⟩) (u := .int .i64 x0.kind) (by simpa [Addr.add] using h00), fun j x hx => ?_⟩
      have h1 := (hP j x hx).1
      simp only [Addr.add_lit, Nat.add_zero] at h1
      exact h1
    · obtain ⟨j, hj⟩ := List.getElem?_of_mem hx
      exact (hP j x hj).2
end Go.Proofs.Ytafdgibkhefplaa.frame

/- '[]byte(s)' of any string: a slice that reads as its bytes; what 'append' hands back is its first argument's block or a new one. Conditions: those that the theorem names. -/
namespace Go.Proofs.Ytafdgibkhefplaa.kit
open Go.RowKit Go.Proofs.Ytafdgibkhefplaa.nums
set_option linter.unusedVariables false

theorem strOfNums_at {l : List Int} (hY : Byt l) (j : Nat) (hj : j < l.length) : (((strOfNums l).data.toList.getD j 0).toNat : Int) = l.getD j 0 := by
  have h := hY.at_ j
  have e1 : (strOfNums l).data.toList = l.map (fun n => UInt8.ofNat n.toNat) := by simp [strOfNums]
  rw [e1, List.getD_eq_getElem?_getD, List.getElem?_map, List.getElem?_eq_getElem hj]
  rw [List.getD_eq_getElem?_getD, List.getElem?_eq_getElem hj] at h ⊢
  simp only [Option.map_some, Option.getD_some] at h ⊢
  rw [UInt8.toNat_ofNat']
  omega
theorem bytesWorld_below (w : World) (e : TypeId) (s : ByteArray) : Below w.heap.size w (Lib.bytesWorld w e s) :=
  ⟨rfl, rfl, rfl, by rw [Lib.bytesWorld_size]; omega, fun k hk => Lib.bytesWorld_at_old w e s k hk⟩
section
variable {P : Program} {w : World} {ops : Array Oper} {rest : List Oper} {o : Oper} {a : Act} {Q : Exit → Act → World → Prop}
theorem wpList_of_string (hgd : o.guard = none) (x : Operand) (src dst e : TypeId) (ho : o.op = .convert src dst x) {u : TypeDesc} (hs : P.underlying src = some u) (hd : P.underlying dst = some (.slice e)) (he : P.underlying e = some (.int .u8))
    (l : List Int) (n : Nat) (hn : l.length = n) (hY : Byt l) (hl : n ≤ 1099511627776) (hx : a.eval x = .string (strOfNums l))
    (h : ∀ A c w', Rd w' w'.heap.size A n l → n ≤ c → c ≤ maxLen → Below w.heap.size w w' → wpList P ops Q rest (a.put o.dst (.slice A n c)) w') : wpList P ops Q (o :: rest) a w := by
  subst hn
  refine wpList_plain hgd fun K hK => ?_
  have hsz := strOfNums_size l
  have hrun := Lib.run_convert_string_bytes (P := P) w src dst e (strOfNums l) hs hd he
  rw [hsz] at hrun
  unfold Oper.wp execOp
  simp only [ho, hx, Sem.run_bind, hrun, Result.andThen_ok, Sem.run_pure]
  refine hK _ _ (h _ _ _ ?_ (by rw [← hsz]; exact grownCap_ge w (strOfNums l).size 0 e) (grownCap_le_maxLen w l.length 0 e (by unfold maxLen; omega)) (bytesWorld_below w e _))
  refine ⟨rfl, fun hp => ⟨_, 0, rfl, by rw [Lib.bytesWorld_size]; omega, fun j hj => ?_⟩⟩
  rw [Nat.zero_add, Lib.bytesWorld_cell w e _ j (by omega), strOfNums_at hY j hj]
end
/-- The row that 'append' hands back lies where the first argument's did, or is new. -/
theorem run_append_fresh {P : Program} (w : World) (base : Nat) (t ty e : TypeId) (z : Value) (by_ : Nat) (ht : P.underlying t = some (.slice e)) (h2 : (P.info? e).map (fun i => (i.zero, i.size, i.bytes)) = some (some z, 1, by_)) (hz : z.cells.size = 1)
    (A : Option Addr) (n c : Nat) (xs : List Value) (hn : xs.length = n) (hown : OwnV e w base (.slice A n c) xs)
    (B : Nat) (X : Option Addr) (m xc : Nat) (news : List Value) (hR : RdV w B X m news) (h1 : ∀ u ∈ news, u.oneCell' = true) (hb : (n + m) * by_ ≤ 140737488355328) (h63 : n + m ≤ maxLen)
    {v' : Value} {w' : World} (hrun : (Builtin.append_ #[t, t] ty #[.slice A n c, .slice X m xc]).run P w = .ok v' w') : ∀ k, v'.ownBlock = some k → (Value.slice A n c).ownBlock = some k ∨ w.heap.size ≤ k := by
  obtain ⟨i, hi, hz0, hz1, hz2⟩ := info_parts h2
  have hm : news.length = m := hR.1
  have hown' : w.ownsRow base e 1 (.slice A n c) n xs := by unfold OwnV at hown; rw [hn] at hown; exact hown
  intro k hk
  rcases X with _ | ad
  · have := run_append_src_none (P := P) w base t ty e i ht hi _ n xs hown' xc
    have hm0 : m = 0 := by
      rcases Nat.eq_zero_or_pos m with h0 | h0
      · exact h0
      · obtain ⟨b, o, h, _⟩ := hR.2 h0
        cases h
    subst hm0
    rw [this] at hrun
    injection hrun with e1 e2
    subst e1
    exact .inl hk
  · have hcells : ∀ j u, news[j]? = some u → w.cell? (ad.add j) = some u := by
      intro j u hu
      have hp : 0 < news.length := by have := (List.getElem?_eq_some_iff.1 hu).1; omega
      obtain ⟨ad', h, hc⟩ := hR.pos hp
      injection h with h
      subst h
      exact hc j u hu
    rcases hown'.2 with ⟨hv, hn0⟩ | ⟨g, cap, cur, hv, hbg, hg, hnc, hcm, hcs, htake⟩
    · obtain ⟨v2, w2, hrun2, h3, _, _⟩ := run_append_own (P := P) w w.heap.size t ty e i z 1 by_ ht hi hz0 hz1 hz2 hz (by omega) _ n xs ⟨hown'.1, .inl ⟨hv, hn0⟩⟩ ad m xc news (by omega) hcells h1 h63 hb (Nat.le_refl _)
      rw [hrun] at hrun2
      injection hrun2 with e1 e2
      subst e1
      exact .inr (World.ownsRow.lt h3 k hk).1
    · simp only [Value.slice.injEq] at hv
      obtain ⟨rfl, -, rfl⟩ := hv
      by_cases hroom : n + m ≤ c
      · left
        have := run_append_room (P := P) w t ty e i ht hi g n c cur hg ad m xc news (by rw [hz1]; omega) hcells h1 hroom (by rw [hz1, hcs, hm]; omega)
        rw [hrun] at this
        injection this with e1 e2
        subst e1
        exact hk
      · right
        have hlo : xs.length = n * 1 := by rw [hn, Nat.mul_one]
        have holds : ∀ j u, xs[j]? = some u → w.cell? ((⟨g, 0, none⟩ : Addr).add j) = some u := fun j u hu => by
          have hj : j < n := by have := (List.getElem?_eq_some_iff.1 hu).1; omega
          rw [Addr.add_lit, Nat.zero_add, World.ownsRow.cellAt hown' j (by omega)]
          exact hu
        obtain ⟨v2, w2, hrun2, h3, _⟩ := run_append_arg_grows (P := P) w t ty e i z 1 by_ ht hi hz0 hz1 hz2 hz (by omega) ⟨g, 0, none⟩ n c xs hlo holds ad m xc news (by omega) hcells (by omega) h63 hb
        rw [hrun] at hrun2
        injection hrun2 with e1 e2
        subst e1
        exact (World.ownsRow.lt h3 k hk).1
/-- 'append(out, xs...)', as wpList_append_v, and where it lies. -/
theorem wpList_append_vf {P : Program} {w : World} {ops : Array Oper} {rest : List Oper} {o : Oper} {a : Act} {Q : Exit → Act → World → Prop} (hgd : o.guard = none) (s x : Operand) (t : TypeId)
    (ho : o.op = .call { callee := .builtin .append, args := #[s, x], argTypes := #[t, t] }) (base : Nat) (e : TypeId) (z : Value) (by_ : Nat) (ht : P.underlying t = some (.slice e)) (h2 : (P.info? e).map (fun i => (i.zero, i.size, i.bytes)) = some (some z, 1, by_)) (hz : z.cells.size = 1)
    (A : Option Addr) (n c : Nat) (xs : List Value) (hn : xs.length = n) (hs : a.eval s = .slice A n c) (hown : OwnV e w base (.slice A n c) xs)
    (B : Nat) (X : Option Addr) (m xc : Nat) (news : List Value) (hx : a.eval x = .slice X m xc) (hR : RdV w B X m news) (h1 : ∀ u ∈ news, u.oneCell' = true) (hb : (n + m) * by_ ≤ 140737488355328) (h63 : n + m ≤ maxLen) (hbase : base ≤ w.heap.size)
    (h : ∀ A' c' w', OwnV e w' base (.slice A' (n + m) c') (xs ++ news) → Below base w w' → w.grownBy w' (Value.ownBlock (.slice A n c)) → (∀ k, (Value.slice A' (n + m) c').ownBlock = some k → (Value.slice A n c).ownBlock = some k ∨ w.heap.size ≤ k) → wpList P ops Q rest (a.put o.dst (.slice A' (n + m) c')) w') : wpList P ops Q (o :: rest) a w := by
  refine wpList_plain hgd fun K hK => ?_
  obtain ⟨A', c', w', hrun, h3, h4, h5⟩ := run_append_v (P := P) w base t o.type e z by_ ht h2 hz A n c xs hn hown B X m xc news hR h1 hb h63 hbase
  have h6 := run_append_fresh (P := P) w base t o.type e z by_ ht h2 hz A n c xs hn hown B X m xc news hR h1 hb h63 hrun
  unfold Oper.wp execOp
  simp only [ho, resolve, invoke, builtin, Sem.run_bind, Sem.run_pure, Result.andThen_ok, List.map_toArray, List.map_cons, List.map_nil, hs, hx, hrun]
  exact hK _ _ (h A' c' w' h3 h4 h5 h6)
/-- The same, one operation of a region alone. -/
theorem wp_append_vf {P : Program} {w : World} {o : Oper} {a : Act} {K : Act → World → Prop} {Q : Exit → Act → World → Prop} (s x : Operand) (t : TypeId)
    (ho : o.op = .call { callee := .builtin .append, args := #[s, x], argTypes := #[t, t] }) (base : Nat) (e : TypeId) (z : Value) (by_ : Nat) (ht : P.underlying t = some (.slice e)) (h2 : (P.info? e).map (fun i => (i.zero, i.size, i.bytes)) = some (some z, 1, by_)) (hz : z.cells.size = 1)
    (A : Option Addr) (n c : Nat) (xs : List Value) (hn : xs.length = n) (hs : a.eval s = .slice A n c) (hown : OwnV e w base (.slice A n c) xs)
    (B : Nat) (X : Option Addr) (m xc : Nat) (news : List Value) (hx : a.eval x = .slice X m xc) (hR : RdV w B X m news) (h1 : ∀ u ∈ news, u.oneCell' = true) (hb : (n + m) * by_ ≤ 140737488355328) (h63 : n + m ≤ maxLen) (hbase : base ≤ w.heap.size)
    (h : ∀ A' c' w', OwnV e w' base (.slice A' (n + m) c') (xs ++ news) → Below base w w' → w.grownBy w' (Value.ownBlock (.slice A n c)) → (∀ k, (Value.slice A' (n + m) c').ownBlock = some k → (Value.slice A n c).ownBlock = some k ∨ w.heap.size ≤ k) → K (a.put o.dst (.slice A' (n + m) c')) w') : o.wp P a w K Q := by
  obtain ⟨A', c', w', hrun, h3, h4, h5⟩ := run_append_v (P := P) w base t o.type e z by_ ht h2 hz A n c xs hn hown B X m xc news hR h1 hb h63 hbase
  have h6 := run_append_fresh (P := P) w base t o.type e z by_ ht h2 hz A n c xs hn hown B X m xc news hR h1 hb h63 hrun
  unfold Oper.wp execOp
  simp only [ho, resolve, invoke, builtin, Sem.run_bind, Sem.run_pure, Result.andThen_ok, List.map_toArray, List.map_cons, List.map_nil, hs, hx, hrun]
  exact h A' c' w' h3 h4 h5 h6
end Go.Proofs.Ytafdgibkhefplaa.kit

/- Words on a row of slices of bytes that a call has made, each in a block of its own. Conditions: those that each theorem names. -/
namespace Go.Proofs.Ytafdgibkhefplaa.kit
open Go.RowKit
set_option linter.unusedVariables false

/-- Each of the slices xs is the call's own, with its list of bytes; no two lie in one block. -/
def OwnsOf (E : TypeId) (w : World) (base : Nat) (xs : List Value) (L : List (List Int)) : Prop :=
  (∀ (j : Nat) (x : Value) (l : List Int), xs[j]? = some x → L[j]? = some l → Own E w base x l) ∧
  (∀ (i j : Nat) (x y : Value) (k : Nat), i ≠ j → xs[i]? = some x → xs[j]? = some y → x.ownBlock = some k → y.ownBlock ≠ some k)
section
variable {E : TypeId} {w w' : World} {base base' : Nat} {xs : List Value} {L : List (List Int)}
theorem OwnsOf.nil (E : TypeId) (w : World) (base : Nat) : OwnsOf E w base [] [] := ⟨fun j x l h => by simp at h, fun i j x y k _ h => by simp at h⟩
theorem OwnsOf.below (h : OwnsOf E w base xs L) (hb : Below w.heap.size w w') : OwnsOf E w' base xs L := ⟨fun j x l hx hl => (h.1 j x l hx hl).below hb, h.2⟩
theorem OwnsOf.more (h : OwnsOf E w base xs L) (hB : base' ≤ base) : OwnsOf E w base' xs L := ⟨fun j x l hx hl => (h.1 j x l hx hl).more hB, h.2⟩
/-- What grows another block than an own slice's leaves it. -/
theorem Own.grown {k : Option Nat} {v : Value} {l : List Int} (h : Own E w base v l) (hG : w.grownBy w' k) (hne : ∀ g, v.ownBlock = some g → k ≠ some g) : Own E w' base v l := by
  refine ⟨h.1, ?_⟩
  rcases h.2 with hn | ⟨g, cap, cur, rfl, hb, hg, r⟩
  · exact .inl hn
  · exact .inr ⟨g, cap, cur, rfl, hb, by rw [hG.block g (Array.getElem?_eq_some_iff.1 hg).1 (fun e => hne g rfl e.symm)]; exact hg, r⟩
/-- A slice of another element type lies elsewhere. -/
theorem own_apart {E' : TypeId} (hE : E ≠ E') {v u : Value} {l : List Int} {ys : List Value} {b2 g : Nat} (h : Own E w base v l) (hO : OwnV E' w b2 u ys) (hg : v.ownBlock = some g) : u.ownBlock ≠ some g := by
  intro hu
  rcases h.2 with ⟨hv, _⟩ | ⟨g1, cap, cur, hv, _, hh, _⟩
  · rw [hv] at hg; simp [Value.ownBlock] at hg
  · rcases hO.2 with ⟨hv2, _⟩ | ⟨g2, cap2, cur2, hv2, _, hh2, _⟩
    · rw [hv2] at hu; simp [Value.ownBlock] at hu
    · rw [hv] at hg
      rw [hv2] at hu
      have e1 : g1 = g := by simpa [Value.ownBlock] using hg
      have e2 : g2 = g := by simpa [Value.ownBlock] using hu
      subst e1
      subst e2
      rw [hh] at hh2
      simp only [Option.some.injEq, Obj.cells.injEq] at hh2
      exact hE hh2.2.1
theorem OwnsOf.grown {E' : TypeId} (hE : E ≠ E') {v : Value} {ys : List Value} {b2 : Nat} (h : OwnsOf E w base xs L) (hO : OwnV E' w b2 v ys) (hG : w.grownBy w' v.ownBlock) : OwnsOf E w' base xs L :=
  ⟨fun j x l hx hl => (h.1 j x l hx hl).grown hG (fun g hg => own_apart hE (h.1 j x l hx hl) hO hg), h.2⟩
/-- One more, made behind all that was there. -/
theorem OwnsOf.snoc {j : Nat} {x : Value} {l : List Int} {W : World} (h : OwnsOf E w base xs L) (h0 : OwnsOf E W base xs L) (hj : xs.length = j) (hL : L.length = j) (hx : Own E w W.heap.size x l) (hb : base ≤ W.heap.size) : OwnsOf E w base (xs ++ [x]) (L ++ [l]) := by
  have hold : ∀ (i : Nat) (y : Value), xs[i]? = some y → ∀ k, y.ownBlock = some k → k < W.heap.size := fun i y hy k hk => by
    have hi : i < xs.length := (List.getElem?_eq_some_iff.1 hy).1
    exact ((h0.1 i y L[i] hy (List.getElem?_eq_getElem (by omega))).lt k hk).2
  have hlast : ∀ (i : Nat) (y : Value), (xs ++ [x])[i]? = some y → (i < j ∧ xs[i]? = some y) ∨ (i = j ∧ y = x) := fun i y hy => by
    by_cases hi : i < xs.length
    · rw [List.getElem?_append_left hi] at hy; exact .inl ⟨by omega, hy⟩
    · have hi2 := (List.getElem?_eq_some_iff.1 hy).1
      simp at hi2
      obtain rfl : i = j := by omega
      rw [List.getElem?_append_right (by omega), hj, Nat.sub_self] at hy
      simp at hy
      exact .inr ⟨rfl, hy.symm⟩
  constructor
  · intro i y m hy hm
    rcases hlast i y hy with ⟨hi, hy⟩ | ⟨rfl, rfl⟩
    · rw [List.getElem?_append_left (by omega)] at hm
      exact h.1 i y m hy hm
    · rw [List.getElem?_append_right (by omega), hL, Nat.sub_self] at hm
      simp at hm
      subst hm
      exact hx.more hb
  · intro i i2 y z k hne hy hz hk
    rcases hlast i y hy with ⟨hi, hy1⟩ | ⟨hi, hy1⟩
    · rcases hlast i2 z hz with ⟨hi2, hz1⟩ | ⟨hi2, hz1⟩
      · exact h.2 i i2 y z k hne hy1 hz1 hk
      · intro h2
        rw [hz1] at h2
        have h3 := (hx.lt k h2).1
        have h4 := hold i y hy1 k hk
        omega
    · rcases hlast i2 z hz with ⟨hi2, hz1⟩ | ⟨hi2, hz1⟩
      · intro h2
        rw [hy1] at hk
        have h3 := (hx.lt k hk).1
        have h4 := hold i2 z hz1 k h2
        omega
      · omega
theorem OwnsOf.sl (h : OwnsOf E w base xs L) : ∀ (j : Nat) (x : Value) (l : List Int), xs[j]? = some x → L[j]? = some l → Sl w w.heap.size x l := fun j x l hx hl => by
  obtain ⟨A, c, e, h1, h2, hR⟩ := (h.1 j x l hx hl).slice
  exact ⟨A, c, e, h1, h2, hR⟩
end
theorem Own.rd {E : TypeId} {w : World} {base n : Nat} {A : Option Addr} {c : Nat} {l : List Int} (h : Own E w base (.slice A n c) l) (hn : l.length = n) : Rd w w.heap.size A n l := by
  obtain ⟨A', c', hv, h1, h2, hR⟩ := h.slice
  simp only [Value.slice.injEq] at hv
  obtain ⟨rfl, -, rfl⟩ := hv
  rwa [hn] at hR
theorem Own.caps {E : TypeId} {w : World} {base n : Nat} {A : Option Addr} {c : Nat} {l : List Int} (h : Own E w base (.slice A n c) l) (hn : l.length = n) : n ≤ c ∧ c ≤ maxLen := by
  obtain ⟨A', c', hv, h1, h2, hR⟩ := h.slice
  simp only [Value.slice.injEq] at hv
  obtain ⟨rfl, -, rfl⟩ := hv
  omega
theorem Own.sl {E : TypeId} {w : World} {base n : Nat} {A : Option Addr} {c : Nat} {l : List Int} (h : Own E w base (.slice A n c) l) (hn : l.length = n) : Sl w w.heap.size (.slice A n c) l :=
  ⟨A, c, by rw [hn], by rw [hn]; exact (h.caps hn).1, (h.caps hn).2, by rw [hn]; exact h.rd hn⟩
theorem Sl.rd {w : World} {B n c : Nat} {A : Option Addr} {l : List Int} (h : Sl w B (.slice A n c) l) (hn : l.length = n) : Rd w B A n l := by
  obtain ⟨A', c', hv, h1, h2, hR⟩ := h
  simp only [Value.slice.injEq] at hv
  obtain ⟨rfl, -, rfl⟩ := hv
  rwa [hn] at hR
theorem OwnV.grown {E : TypeId} {w w' : World} {base : Nat} {k : Option Nat} {v : Value} {xs : List Value} (h : OwnV E w base v xs) (hG : w.grownBy w' k) (hne : ∀ g, v.ownBlock = some g → k ≠ some g) : OwnV E w' base v xs := by
  refine ⟨h.1, ?_⟩
  rcases h.2 with hn | ⟨g, cap, cur, rfl, hb, hg, r⟩
  · exact .inl hn
  · exact .inr ⟨g, cap, cur, rfl, hb, by rw [hG.block g (Array.getElem?_eq_some_iff.1 hg).1 (fun e => hne g rfl e.symm)]; exact hg, r⟩
/-- The slices from the i-th on are the call's own. -/
def OwnsFrom (E : TypeId) (w : World) (base i : Nat) (xs : List Value) (L : List (List Int)) : Prop := ∀ (j : Nat) (x : Value) (l : List Int), i ≤ j → xs[j]? = some x → L[j]? = some l → Own E w base x l
theorem OwnsOf.from_ {E : TypeId} {w : World} {base : Nat} {xs : List Value} {L : List (List Int)} (h : OwnsOf E w base xs L) : OwnsFrom E w base 0 xs L := fun j x l _ hx hl => h.1 j x l hx hl
/-- What the i-th's block alone grew in leaves those behind it. -/
theorem OwnsFrom.step {E : TypeId} {w w' : World} {base i : Nat} {xs : List Value} {L : List (List Int)} {x : Value} (h : OwnsFrom E w base i xs L) (hd : ∀ (i j : Nat) (x y : Value) (k : Nat), i ≠ j → xs[i]? = some x → xs[j]? = some y → x.ownBlock = some k → y.ownBlock ≠ some k) (hx : xs[i]? = some x) (hG : w.grownBy w' x.ownBlock) : OwnsFrom E w' base (i + 1) xs L := fun j y l hj hy hl =>
  (h j y l (by omega) hy hl).grown hG (fun g hg e => hd i j x y g (by omega) hx hy e hg)
/-- What an index reads of a row of slices of bytes, and where it lies. -/
theorem RdS.at2 {w : World} {B n : Nat} {A : Option Addr} {L : List (List Int)} (h : RdS w B A n L) {j : Nat} (hj : j < n) : ∃ b o Aj cj l, A = some ⟨b, o, none⟩ ∧ b < B ∧ L[j]? = some l ∧ w.cell? ⟨b, o + j, none⟩ = some (.slice Aj l.length cj) ∧ l.length ≤ cj ∧ cj ≤ maxLen ∧ Rd w B Aj l.length l := by
  obtain ⟨b, o, Aj, cj, l, e, h1, h2, h3, h4, h5⟩ := h.at_ hj
  obtain ⟨xs, hV, _, _⟩ := h
  obtain ⟨b', o', e', hb, _⟩ := hV.2 (by omega)
  rw [e] at e'
  simp only [Option.some.injEq, Addr.mk.injEq, and_true] at e'
  obtain ⟨rfl, rfl⟩ := e'
  exact ⟨b, o, Aj, cj, l, e, hb, h1, h2, h3, h4, h5⟩
theorem Rd.upto {w : World} {B n q : Nat} {A : Option Addr} {l : List Int} (h : Rd w B A n l) (hq : q ≤ n) : Rd w B A q (l.take q) := by
  refine ⟨by rw [List.length_take, h.1]; omega, fun hn => ?_⟩
  obtain ⟨b, o, e, hb, hc⟩ := h.2 (by omega)
  refine ⟨b, o, e, hb, fun j hj => ?_⟩
  rw [hc j (by omega), List.getD_eq_getElem?_getD, List.getD_eq_getElem?_getD, List.getElem?_take, if_pos hj]
/-- A row of own slices, as it reads. -/
theorem rds_of {E E' : TypeId} {w : World} {base base2 n : Nat} {A : Option Addr} {c : Nat} {xs : List Value} {L : List (List Int)} (hO : OwnV E' w base (.slice A n c) xs) (hn : xs.length = n) (hL : L.length = n) (h : OwnsOf E w base2 xs L) : RdS w w.heap.size A n L := by
  obtain ⟨A', c', hv, h1, h2, hV⟩ := hO.slice
  simp only [Value.slice.injEq] at hv
  obtain ⟨rfl, -, rfl⟩ := hv
  rw [hn] at hV
  exact ⟨xs, hV, hL, h.sl⟩
theorem Own.form {E : TypeId} {w : World} {base n c : Nat} {A : Option Addr} {l : List Int} (h : Own E w base (.slice A n c) l) (hn : 0 < n) : ∃ g, A = some ⟨g, 0, none⟩ ∧ base ≤ g := by
  rcases h.2 with ⟨hv, hz⟩ | ⟨g, cap, cur, hv, hb, _⟩
  · simp only [Value.slice.injEq] at hv; omega
  · simp only [Value.slice.injEq] at hv; exact ⟨g, hv.1, hb⟩
theorem u8s_set (l : List Int) (j : Nat) (x : Int) : (u8s l).set j (.int .u8 x) = u8s (l.set j x) := by
  unfold u8s; rw [List.map_set]
theorem Own.stored {E : TypeId} {w : World} {base n c g : Nat} {l : List Int} (h : Own E w base (.slice (some ⟨g, 0, none⟩) n c) l) (hn : l.length = n) (j : Nat) (x : Int) : Own E (w.setCell ⟨g, j, none⟩ (.int .u8 x)) base (.slice (some ⟨g, 0, none⟩) n c) (l.set j x) := by
  have h0 : w.ownsRow base E 1 (.slice (some ⟨g, 0, none⟩) n c) n (u8s l) := by have := h; unfold Own at this; rwa [hn] at this
  have h1 := World.ownsRow.stored h0 j (.int .u8 x)
  rw [u8s_set] at h1
  unfold Own
  rw [List.length_set, hn]
  exact h1.1
theorem Own.cell {E : TypeId} {w : World} {base n c g : Nat} {l : List Int} (h : Own E w base (.slice (some ⟨g, 0, none⟩) n c) l) (hn : l.length = n) (j : Nat) (hj : j < n) : w.cell? ⟨g, j, none⟩ = some (.int .u8 (l.getD j 0)) ∧ w.frozen? ⟨g, j, none⟩ = false := by
  have h0 : w.ownsRow base E 1 (.slice (some ⟨g, 0, none⟩) n c) n (u8s l) := by have := h; unfold Own at this; rwa [hn] at this
  exact ⟨by rw [World.ownsRow.cellAt h0 j (by omega), u8s_getElem? l j (by omega)], World.ownsRow.frozenAt h0 j⟩
/-- A slice of bytes that the call lays, as its own. -/
theorem Own.lit (w : World) (E : TypeId) {base n : Nat} (l : List Int) (hn : l.length = n) (hb : base ≤ w.heap.size) (hm : n ≤ 140737488355328) : Own E (w.alloc (.cells (u8s l).toArray E)) base (.slice (some ⟨w.heap.size, 0, none⟩) n n) l :=
  own_of_block (cs := u8s l) hb (heap_alloc_new w _) hn (Nat.le_refl _) hm (by rw [u8s_length, hn]) (by rw [← hn, ← u8s_length]; exact List.take_length)
end Go.Proofs.Ytafdgibkhefplaa.kit
