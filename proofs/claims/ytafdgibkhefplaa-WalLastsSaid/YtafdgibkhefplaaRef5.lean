/- What the document's log (antipoderef5) comes to: Over, may, fails, Sync, Append. Conditions: the disk is a good one, the log lies on it. -/
import Derived.Test.YtafdgibkhefplaaJoin0
import Derived.Test.YtafdgibkhefplaaRef4c
import Derived.Test.YtafdgibkhefplaaRef4b
import Derived.Test.YtafdgibkhefplaaRef3
import Derived.Test.YtafdgibkhefplaaJoin1
import Derived.Test.YtafdgibkhefplaaLaw0
import Derived.BigQuiet
namespace Go.Proofs.Ytafdgibkhefplaa.ref5
open Go.RowKit Go.Proofs.Ytafdgibkhefplaa.kit Go.Proofs.Ytafdgibkhefplaa.nums Go.Proofs.Ytafdgibkhefplaa.ds Go.Proofs.Ytafdgibkhefplaa.rec_ Go.Proofs.Ytafdgibkhefplaa.ws Go.Proofs.Ytafdgibkhefplaa.ref4 Go.Proofs.Ytafdgibkhefplaa.bytes
set_option linter.unusedVariables false

theorem infoS : (Try.prog.info? 9).map (fun i => (i.zero, i.size, i.bytes)) = some (some (.string ⟨#[]⟩), 1, 16) := by kernel_rfl
def strV (l : List Int) : Value := .string (strOfNums l)
def rwV (X : WS) (g : Nat) (v : Value) : List Value := [.pointer (some ⟨g, 0, none⟩), .int .i64 X.file, .int .u64 X.gen, v, .int .i64 X.life, .bool X.done]
/-- The document's log X lies in block p, over its disk D in block g; v: its records. -/
structure RefW (w : World) (p g base : Nat) (X : WS) (D : DS) (v : Value) : Prop where
  blk : Blk 80 w p (rwV X g v)
  own : OwnV 9 w base v (X.recs.map strV)
  ref : IsRef w g D
/-- What was there is as it was, but for the blocks fp; what is theirs then was theirs, or is new. -/
structure Chg (fp fp' : Nat → Prop) (w w' : World) : Prop where
  os : w'.os = w.os
  tape : w'.tape = w.tape
  output : w'.output = w.output
  size : w.heap.size ≤ w'.heap.size
  block : ∀ k, k < w.heap.size → ¬ fp k → w'.heap[k]? = w.heap[k]?
  new : ∀ k, fp' k → fp k ∨ w.heap.size ≤ k
def fpW (p g : Nat) (v : Value) (k : Nat) : Prop := k = p ∨ k = g ∨ v.ownBlock = some k
theorem Chg.refl (fp : Nat → Prop) (w : World) : Chg fp fp w w := ⟨rfl, rfl, rfl, Nat.le_refl _, fun _ _ _ => rfl, fun k h => .inl h⟩
theorem Chg.trans {a b c : Nat → Prop} {w w' w'' : World} (h : Chg a b w w') (h' : Chg b c w' w'') : Chg a c w w'' :=
  ⟨h'.os.trans h.os, h'.tape.trans h.tape, h'.output.trans h.output, Nat.le_trans h.size h'.size, fun k hk hn => by
    rw [h'.block k (Nat.lt_of_lt_of_le hk h.size) (fun hb => by
      rcases h.new k hb with h1 | h1
      · exact hn h1
      · omega)]
    exact h.block k hk hn, fun k hk => by
    rcases h'.new k hk with h1 | h1
    · exact h.new k h1
    · exact .inr (Nat.le_trans h.size h1)⟩
theorem Chg.below {w w' : World} {fp fp' : Nat → Prop} {b : Nat} (h : Below w.heap.size w w') (hn : ∀ k, fp' k → fp k ∨ w.heap.size ≤ k) : Chg fp fp' w w' := ⟨h.os, h.tape, h.output, h.size, fun k hk _ => h.block k hk, hn⟩
theorem Chg.grown {w w' : World} {fp fp' : Nat → Prop} {k : Option Nat} (h : w.grownBy w' k) (hk : ∀ g, k = some g → fp g) (hn : ∀ k, fp' k → fp k ∨ w.heap.size ≤ k) : Chg fp fp' w w' := ⟨h.os, h.tape, h.output, h.size, fun j hj hnf => h.block j hj (fun e => hnf (hk j e.symm)), hn⟩
theorem Chg.to {w w' : World} {fp fp' : Nat → Prop} {B : Nat} (h : Chg fp fp' w w') (hB : B ≤ w.heap.size) (hf : ∀ k, fp k → B ≤ k) : Below B w w' := ⟨h.os, h.tape, h.output, h.size, fun k hk => h.block k (by omega) (fun hh => by have := hf k hh; omega)⟩
section
variable {w w' : World} {p g base : Nat} {X : WS} {D : DS} {v : Value}
theorem RefW.below (h : RefW w p g base X D v) (hb : Below w.heap.size w w') : RefW w' p g base X D v := ⟨Blk.below h.blk hb h.blk.lt, h.own.below hb, h.ref.below hb⟩
/-- The three blocks are different ones. -/
theorem RefW.pg (h : RefW w p g base X D v) : p ≠ g := by
  rintro rfl
  have h1 := h.blk
  have h2 := h.ref
  unfold IsRef at h2
  unfold Blk at h1 h2
  rw [h1] at h2
  simp only [Option.some.injEq, Obj.cells.injEq] at h2
  exact absurd h2.2.1 (by decide)
theorem ownV_block {E : TypeId} {xs : List Value} {k : Nat} (h : OwnV E w base v xs) (hk : v.ownBlock = some k) : base ≤ k ∧ ∃ cs, w.heap[k]? = some (.cells cs E (0, 0)) := by
  rcases h.2 with ⟨hv, _⟩ | ⟨g2, cap, cur, hv, hb, hg, _⟩
  · rw [hv] at hk; simp [Value.ownBlock] at hk
  · rw [hv] at hk
    simp [Value.ownBlock] at hk
    subst hk
    exact ⟨hb, cur, hg⟩
theorem RefW.vp (h : RefW w p g base X D v) : v.ownBlock ≠ some p := by
  intro e
  obtain ⟨_, cs, h2⟩ := ownV_block h.own e
  have h1 := h.blk
  unfold Blk at h1
  rw [h1] at h2
  simp only [Option.some.injEq, Obj.cells.injEq] at h2
  exact absurd h2.2.1 (by decide)
theorem RefW.vg (h : RefW w p g base X D v) : v.ownBlock ≠ some g := by
  intro e
  obtain ⟨_, cs, h2⟩ := ownV_block h.own e
  have h1 := h.ref
  unfold IsRef Blk at h1
  rw [h1] at h2
  simp only [Option.some.injEq, Obj.cells.injEq] at h2
  exact absurd h2.2.1 (by decide)
theorem RefW.c0 (h : RefW w p g base X D v) : w.cell? ⟨p, 0, none⟩ = some (.pointer (some ⟨g, 0, none⟩)) := by rw [h.blk.cell]; rfl
theorem RefW.c1 (h : RefW w p g base X D v) : w.cell? ⟨p, 1, none⟩ = some (.int .i64 X.file) := by rw [h.blk.cell]; rfl
theorem RefW.c2 (h : RefW w p g base X D v) : w.cell? ⟨p, 2, none⟩ = some (.int .u64 X.gen) := by rw [h.blk.cell]; rfl
theorem RefW.c3 (h : RefW w p g base X D v) : w.cell? ⟨p, 3, none⟩ = some v := by rw [h.blk.cell]; rfl
theorem RefW.c4 (h : RefW w p g base X D v) : w.cell? ⟨p, 4, none⟩ = some (.int .i64 X.life) := by rw [h.blk.cell]; rfl
theorem RefW.c5 (h : RefW w p g base X D v) : w.cell? ⟨p, 5, none⟩ = some (.bool X.done) := by rw [h.blk.cell]; rfl
/-- The disk alone turned. -/
theorem RefW.disk {D' : DS} (h : RefW w p g base X D v) (hr : IsRef w' g D') (hG : w.grownBy w' (some g)) : RefW w' p g base X D' v :=
  ⟨by have := hG.block p h.blk.lt (by intro e; exact h.pg (by simpa using e)); unfold Blk; rw [this]; exact h.blk, h.own.grown hG (fun k hk e => h.vg (by rw [hk, ← e])), hr⟩
/-- A cell of the log's own block is set. -/
theorem RefW.set (h : RefW w p g base X D v) (i : Nat) (u : Value) {X' : WS} (hX : X'.recs = X.recs) (e : (rwV X g v).set i u = rwV X' g v) : RefW (w.setCell ⟨p, i, none⟩ u) p g base X' D v :=
  ⟨by rw [← e]; exact Blk.set_ h.blk i u, by rw [hX]; exact h.own.grown (grown_set w p i u) (fun k hk e => h.vp (by rw [hk, ← e])), h.ref.keep ((grown_set w p i u).block g h.ref.lt (by intro e; exact h.pg (by simpa using e.symm)))⟩
end
theorem over_any (p g base : Nat) (X : WS) (D : DS) (v : Value) (w : World) (h : RefW w p g base X D v) :
    Calls Try.prog 47 #[.pointer (some ⟨p, 0, none⟩)] w fun e w' => e = .returned (.bool (X.over D)) ∧ ∃ n, w' = w.drewN n := by
  have c0 := h.c0
  have c4 := h.c4
  have c5 := h.c5
  have d6 := h.ref.c6
  have HO := Lib.hid (show X.over D = (X.done || decide (D.powers ≠ X.life)) from rfl)
  obtain ⟨b, hb⟩ : ∃ b, X.done = b := ⟨_, rfl⟩
  rw [hb] at c5 HO
  clear h hb
  cases b
  all_goals
    go_enter Try.func47, Try.ntmps47
    go_wp2_with fail
    go_quiet (fail)
    go_wp2_with fail
    go_ret
    refine ⟨?_, nq, rfl⟩
    rw [HO.out]
    first
    | rfl
    | (by_cases hq : D.powers = X.life
       · simp [hq]
       · have hq2 : ¬ (D.powers : Int) = X.life := by omega
         simp [hq, hq2])
theorem drewN_below (w : World) (n : Nat) (B : Nat) : Below B w (w.drewN n) := ⟨rfl, rfl, rfl, Nat.le_refl _, fun _ _ => rfl⟩
set_option maxHeartbeats 400000 in
theorem may_any (p g base : Nat) (X : WS) (D : DS) (v : Value) (w : World) (h : RefW w p g base X D v) (A : Option Addr) (n c : Nat) (L : List (List Int)) (B : Nat) (hR : RdV w B A n (L.map strV)) (hn : n ≤ 1099511627776) (hL : ∀ r ∈ L, r.length ≤ 1099511627776) :
    Calls Try.prog 66 #[.pointer (some ⟨p, 0, none⟩), .slice A n c] w fun e w' => e = .returned (.int .i64 (mayE X D L)) ∧ ∃ n, w' = w.drewN n := by
  have C := Lib.hid (over_any p g base X D v w h)
  have HLn : Hid (L.length = n) := by show _ = _; have := hR.1; rwa [List.length_map] at this
  have HC := Lib.hid (show ∀ (W : World), (∃ q, W = w.drewN q) → ∀ j, j < n → ∃ b o r, A = some ⟨b, o, none⟩ ∧ L[j]? = some r ∧ W.cell? ⟨b, o + j, none⟩ = some (strV r) ∧ r.length ≤ 1099511627776 from fun W hW j hj => by
    obtain ⟨q, rfl⟩ := hW
    obtain ⟨b, o, u, e, hu, hc⟩ := hR.at_ hj
    rw [List.getElem?_map] at hu
    rcases hr : L[j]? with _ | r
    · rw [hr] at hu; cases hu
    · rw [hr] at hu
      obtain rfl := Option.some.inj hu
      exact ⟨b, o, r, e, rfl, hc, hL r (List.mem_of_getElem? hr)⟩)
  have HM := Lib.hid (show mayE X D L = if X.over D = true then 6 else if tooLong L then 3 else 0 from rfl)
  clear h hR hL
  go_enter Try.func66, Try.ntmps66
  go_wp2_with fail
  refine C.out.mono ?_
  rintro e w1 ⟨rfl, hW⟩
  have HW := Lib.hid hW
  clear hW C
  obtain ⟨o, ho⟩ : ∃ o, X.over D = o := ⟨_, rfl⟩
  rw [ho] at HM
  rw [ho]
  clear ho
  cases o
  · go_wp2_with fail
    go_loop [5] (fun i => ∃ j : Nat, j ≤ n ∧ i = .int .i64 j ∧ ∀ (k : Nat) (r : List Int), k < j → L[k]? = some r → r.length ≤ 1048575) (fun i => n - (intOf i).toNat)
    case atStart => exact ⟨0, by omega, rfl, fun k r hk => absurd hk (by omega)⟩
    case round =>
      obtain ⟨j, hj, rfl, hall⟩ := hrel
      have HA := Lib.hid hall
      clear hall
      by_cases hlt : j < n
      · obtain ⟨b, o, r, rfl, hr, hc, hrl⟩ := HC.out w1 HW.out j hlt
        have hs := strOfNums_size r
        unfold strV at hc
        have HR := Lib.hid hr
        clear hr
        by_cases hbig : 1048575 < r.length
        · go_wp2_with fail
          go_ret
          refine ⟨?_, HW.out⟩
          rw [HM.out, if_neg (by decide), if_pos ⟨r, List.mem_of_getElem? HR.out, hbig⟩]
          rfl
        · go_wp2_with fail
          go_round
          case rel => exact ⟨j + 1, by omega, by go_num, fun k r' hk hr' => by
            rcases Nat.lt_or_ge k j with h1 | h1
            · exact HA.out k r' h1 hr'
            · obtain rfl : k = j := by omega
              rw [HR.out] at hr'
              obtain rfl := Option.some.inj hr'
              omega⟩
          case measure => simp [intOf]; omega
      · obtain rfl : j = n := by omega
        go_wp2_with fail
        go_ret
        refine ⟨?_, HW.out⟩
        rw [HM.out, if_neg (by decide), if_neg (fun ⟨r, hr, hb⟩ => by
          obtain ⟨k, hk, rfl⟩ := List.getElem_of_mem hr
          have := HA.out k _ (by have := HLn.out; omega) (List.getElem?_eq_getElem hk)
          omega)]
        rfl
  · go_wp2_with fail
    go_ret
    refine ⟨?_, HW.out⟩
    rw [HM.out]
    rfl
theorem fails_any (p g base : Nat) (X : WS) (D : DS) (v : Value) (w : World) (h : RefW w p g base X D v) (x : Int) :
    Calls Try.prog 67 #[.pointer (some ⟨p, 0, none⟩), .int .i64 x] w fun e w' => e = .returned (.int .i64 x) ∧ RefW w' p g base (if x = 0 then X else { X with done := true }) D v ∧ w.grownBy w' (some p) := by
  have c5 := h.c5
  have f5 := h.blk.frozen 5
  by_cases hx : x = 0
  · subst hx
    have HB := Lib.hid h
    go_enter Try.func67, Try.ntmps67
    go_wp2_with fail
    go_ret
    exact ⟨rfl, by simpa using HB.out, World.grownBy.refl _ _⟩
  · have hne : (x != 0) = true := by simpa using hx
    have HX := Lib.hid hx
    have HB := Lib.hid h
    clear hx h
    go_enter Try.func67, Try.ntmps67
    go_wp2_with fail
    go_ret
    refine ⟨rfl, ?_, grown_set _ _ _ _⟩
    have h5 : RefW (w.setCell ⟨p, 5, none⟩ (.bool true)) p g base { X with done := true } D v := HB.out.set 5 _ rfl rfl
    simpa [HX.out] using h5
/-- What a call ends in that turns the log and its disk alone. -/
def RetX (w : World) (p g base : Nat) (v : Value) (o : Out) (e : Ending) (w' : World) : Prop := ∃ v', e = .returned (.int .i64 o.e) ∧ RefW w' p g base o.X o.D v' ∧ Chg (fpW p g v) (fpW p g v') w w'
theorem chg_drewN (fp : Nat → Prop) (w : World) (n : Nat) : Chg fp fp w (w.drewN n) := ⟨rfl, rfl, rfl, Nat.le_refl _, fun _ _ _ => rfl, fun _ h => .inl h⟩
theorem RefW.drewN {w : World} {p g base : Nat} {X : WS} {D : DS} {v : Value} (h : RefW w p g base X D v) (n : Nat) : RefW (w.drewN n) p g base X D v := h.below (drewN_below _ _ _)
/-- The disk turned, then its error was looked at. -/
theorem RetX.failed {w w1 w2 w3 : World} {p g base : Nat} {X : WS} {D' : DS} {v : Value} {x : Int} (hw : Chg (fpW p g v) (fpW p g v) w w1) (hG : w1.grownBy w2 (some g)) (hx : x ≠ 0) (hf : RefW w3 p g base (if x = 0 then X else { X with done := true }) D' v) (hG3 : w2.grownBy w3 (some p)) :
    RetX w p g base v (halt X D' x) (.returned (.int .i64 x)) w3 := by
  rw [if_neg hx] at hf
  refine ⟨v, rfl, hf, (hw.trans (Chg.grown hG (fun k hk => ?_) (fun k hk => .inl hk))).trans (Chg.grown hG3 (fun k hk => ?_) (fun k hk => .inl hk))⟩
  · exact .inr (.inl (Option.some.inj hk).symm)
  · exact .inl (Option.some.inj hk).symm
theorem RetX.fine {w w1 w2 w3 : World} {p g base : Nat} {X : WS} {D' : DS} {v : Value} {x : Int} (hw : Chg (fpW p g v) (fpW p g v) w w1) (hG : w1.grownBy w2 (some g)) (hx : x = 0) (hf : RefW w3 p g base (if x = 0 then X else { X with done := true }) D' v) (hG3 : w2.grownBy w3 (some p)) :
    RetX w p g base v ⟨0, X, D'⟩ (.returned (.int .i64 x)) w3 := by
  subst hx
  rw [if_pos rfl] at hf
  refine ⟨v, rfl, hf, (hw.trans (Chg.grown hG (fun k hk => ?_) (fun k hk => .inl hk))).trans (Chg.grown hG3 (fun k hk => ?_) (fun k hk => .inl hk))⟩
  · exact .inr (.inl (Option.some.inj hk).symm)
  · exact .inl (Option.some.inj hk).symm
set_option maxRecDepth 100000 in
set_option maxHeartbeats 1000000 in
theorem sync_any (p g base : Nat) (X : WS) (D : DS) (v : Value) (w : World) (h : RefW w p g base X D v) (hD : D.Good) (hs : D.stepped ≤ 999000) :
    Calls Try.prog 41 #[.pointer (some ⟨p, 0, none⟩)] w (RetX w p g base v (syncO X D)) := by
  have C := Lib.hid (may_any p g base X D v w h none 0 0 [] 0 (RdV.nil _ _ _) (by omega) (fun r hr => nomatch hr))
  have HB := Lib.hid h
  have C2 := Lib.hid (fun (W : World) (hW : RefW W p g base X D v) => ref4.sync_any g D X.file W hW.ref hD (by omega))
  have C4 := Lib.hid (fun (W : World) (hW : RefW W p g base X (D.syncS X.file) v) => fails_any p g base X (D.syncS X.file) v W hW)
  clear h
  apply sync_ways X D (P := fun o => Calls Try.prog 41 #[.pointer (some ⟨p, 0, none⟩)] w (RetX w p g base v o))
  · intro hm
    obtain ⟨x, hx⟩ : ∃ x, mayE X D [] = x := ⟨_, rfl⟩
    rw [hx] at hm C
    rw [hx]
    have hne : (x != 0) = true := by simpa using hm
    clear hx hm
    go_enter Try.func41, Try.ntmps41
    go_wp2_with fail
    refine C.out.mono ?_
    rintro e w1 ⟨rfl, q, rfl⟩
    go_wp2_with fail
    go_ret
    exact ⟨v, rfl, HB.out.drewN q, chg_drewN _ _ _⟩
  all_goals
    intro hm he
    rw [hm] at C
    obtain ⟨x, hx⟩ : ∃ x, D.syncE X.file = x := ⟨_, rfl⟩
    rw [hx] at C2 he
    try rw [hx]
    have HE := Lib.hid he
    clear hm he hx
    go_enter Try.func41, Try.ntmps41
    go_wp2_with fail
    refine C.out.mono ?_
    rintro e w1 ⟨rfl, q, hw1⟩
    have h1 : RefW w1.drew p g base X D v := by rw [hw1]; exact (HB.out.drewN q).drewN 1
    have c0 : w1.cell? ⟨p, 0, none⟩ = some (.pointer (some ⟨g, 0, none⟩)) := h1.c0
    have c1 : w1.cell? ⟨p, 1, none⟩ = some (.int .i64 X.file) := h1.c1
    have HW := Lib.hid (show Chg (fpW p g v) (fpW p g v) w w1.drew from by rw [hw1]; exact (chg_drewN _ _ _).trans (chg_drewN _ _ 1))
    have C3 := Lib.hid (C2.out w1.drew h1)
    have H1 := Lib.hid h1
    clear hw1 h1 C2
    go_wp2_with fail
    refine wp_region_held_drew (S := fun wq => wq.cell? ⟨p, 0, none⟩ = some (.pointer (some ⟨g, 0, none⟩)) ∧ wq.cell? ⟨p, 1, none⟩ = some (.int .i64 X.file)) (by kernel_rfl) ?s_0 (fun hHeld => ?_)
    case s_0 => exact ⟨c0, c1⟩
    clear c0 c1
    refine wpAnyH_take (i := 0) (oi := { dst := some 9, op := Go.Op.move (Go.Operand.tmp 0), type := 31, pos := "ref.go:155", after := #[], guard := none }) (v := ?v_0_1) rfl (by kernel_rfl) (by kernel_rfl) (by kernel_rfl) (fun _ _ _ h => h) (Or.inl ⟨by rfl, ?y_0_1⟩) (by assumption) ?_
    case y_0_1 => (intro wq hSw; (try dsimp only at hSw); go_simp; first | done | with_reducible rfl)
    try simp only [Act.put, List.setIfInBounds_toArray, List.set_cons_zero, List.set_cons_succ]
    refine wpAnyH_take (i := 1) (oi := { dst := some 10, op := Go.Op.move (Go.Operand.tmp 0), type := 31, pos := "ref.go:155", after := #[], guard := none }) (v := ?v_1_1) rfl (by kernel_rfl) (by kernel_rfl) (by kernel_rfl) (fun _ _ _ h => h) (Or.inl ⟨by rfl, ?y_1_1⟩) (by assumption) ?_
    case y_1_1 => (intro wq hSw; (try dsimp only at hSw); go_simp; first | done | with_reducible rfl)
    try simp only [Act.put, List.setIfInBounds_toArray, List.set_cons_zero, List.set_cons_succ]
    refine wpAnyH_take (i := 2) (oi := { dst := some 11, op := Go.Op.nilCheck (Go.Operand.tmp 10), type := 0, pos := "ref.go:155", after := #[{ on := 1, ground := Go.Ground.data }], guard := none }) (v := ?v_2_1) rfl (by kernel_rfl) (by kernel_rfl) (by kernel_rfl) (fun _ _ _ h => h) (Or.inl ⟨by rfl, ?y_2_1⟩) (by assumption) ?_
    case y_2_1 => (intro wq hSw; (try dsimp only at hSw); go_simp; first | done | with_reducible rfl)
    try simp only [Act.put, List.setIfInBounds_toArray, List.set_cons_zero, List.set_cons_succ]
    refine wpAnyH_take (i := 3) (oi := { dst := some 12, op := Go.Op.fieldAddr 80 (Go.Operand.tmp 11) 0, type := 0, pos := "ref.go:155", after := #[{ on := 2, ground := Go.Ground.data }], guard := none }) (v := ?v_3_1) rfl (by kernel_rfl) (by kernel_rfl) (by kernel_rfl) (fun _ _ _ h => h) (Or.inl ⟨by rfl, ?y_3_1⟩) (by assumption) ?_
    case y_3_1 => (intro wq hSw; (try dsimp only at hSw); go_simp; first | done | with_reducible rfl)
    try simp only [Act.put, List.setIfInBounds_toArray, List.set_cons_zero, List.set_cons_succ]
    refine wpAnyH_take (i := 4) (oi := { dst := some 13, op := Go.Op.load 28 (Go.Operand.tmp 12), type := 28, pos := "ref.go:155", after := #[{ on := 3, ground := Go.Ground.data }], guard := none }) (v := ?v_4_1) rfl (by kernel_rfl) (by kernel_rfl) (by kernel_rfl) (fun _ _ _ h => h) (Or.inl ⟨by rfl, ?y_4_1⟩) (by assumption) ?_
    case y_4_1 => (intro wq hSw; (try dsimp only at hSw); go_simp; first | done | with_reducible rfl)
    try simp only [Act.put, List.setIfInBounds_toArray, List.set_cons_zero, List.set_cons_succ]
    refine wpAnyH_take (i := 5) (oi := { dst := some 14, op := Go.Op.move (Go.Operand.tmp 0), type := 31, pos := "ref.go:155", after := #[], guard := none }) (v := ?v_5_1) rfl (by kernel_rfl) (by kernel_rfl) (by kernel_rfl) (fun _ _ _ h => h) (Or.inl ⟨by rfl, ?y_5_1⟩) (by assumption) ?_
    case y_5_1 => (intro wq hSw; (try dsimp only at hSw); go_simp; first | done | with_reducible rfl)
    try simp only [Act.put, List.setIfInBounds_toArray, List.set_cons_zero, List.set_cons_succ]
    refine wpAnyH_take (i := 6) (oi := { dst := some 15, op := Go.Op.nilCheck (Go.Operand.tmp 14), type := 0, pos := "ref.go:155", after := #[{ on := 5, ground := Go.Ground.data }], guard := none }) (v := ?v_6_1) rfl (by kernel_rfl) (by kernel_rfl) (by kernel_rfl) (fun _ _ _ h => h) (Or.inl ⟨by rfl, ?y_6_1⟩) (by assumption) ?_
    case y_6_1 => (intro wq hSw; (try dsimp only at hSw); go_simp; first | done | with_reducible rfl)
    try simp only [Act.put, List.setIfInBounds_toArray, List.set_cons_zero, List.set_cons_succ]
    refine wpAnyH_take (i := 7) (oi := { dst := some 16, op := Go.Op.fieldAddr 80 (Go.Operand.tmp 15) 1, type := 0, pos := "ref.go:155", after := #[{ on := 6, ground := Go.Ground.data }], guard := none }) (v := ?v_7_1) rfl (by kernel_rfl) (by kernel_rfl) (by kernel_rfl) (fun _ _ _ h => h) (Or.inl ⟨by rfl, ?y_7_1⟩) (by assumption) ?_
    case y_7_1 => (intro wq hSw; (try dsimp only at hSw); go_simp; first | done | with_reducible rfl)
    try simp only [Act.put, List.setIfInBounds_toArray, List.set_cons_zero, List.set_cons_succ]
    refine wpAnyH_take (i := 8) (oi := { dst := some 17, op := Go.Op.load 3 (Go.Operand.tmp 16), type := 3, pos := "ref.go:155", after := #[{ on := 7, ground := Go.Ground.data }], guard := none }) (v := ?v_8_1) rfl (by kernel_rfl) (by kernel_rfl) (by kernel_rfl) (fun _ _ _ h => h) (Or.inl ⟨by rfl, ?y_8_1⟩) (by assumption) ?_
    case y_8_1 => (intro wq hSw; (try dsimp only at hSw); go_simp; first | done | with_reducible rfl)
    try simp only [Act.put, List.setIfInBounds_toArray, List.set_cons_zero, List.set_cons_succ]
    refine wpAnyH_ready (rs := [9]) (by kernel_rfl) (by simp) ?_
    refine AllReadyH.cons (o := { dst := some 18, op := Go.Op.call { callee := Go.Callee.value (Go.Operand.func 68), args := #[Go.Operand.tmp 13, Go.Operand.tmp 17], argTypes := #[28, 3] }, type := 41, pos := "ref.go:155", after := #[{ on := 4, ground := Go.Ground.data }, { on := 8, ground := Go.Ground.data }], guard := none }) rfl (fun KQ hKQ => ?_) AllReadyH.nil
    go_simp
    refine C3.out.mono ?_
    rintro e w2 ⟨rfl, hr2, hG2⟩
    have h2 := H1.out.disk hr2 hG2
    have C5 := Lib.hid (C4.out w2 h2 x)
    clear C3 C4
    go_wp2_with fail
    refine hKQ.out _ _ ?s_9 (fun hHeld9 => ?_)
    case s_9 => exact ⟨h2.c0, h2.c1⟩
    clear hKQ KQ
    try simp only [Act.put, List.setIfInBounds_toArray, List.set_cons_zero, List.set_cons_succ]
    refine wpAnyH_ready (rs := [10]) (by kernel_rfl) (by simp) ?_
    refine AllReadyH.cons (o := { dst := some 19, op := Go.Op.call { callee := Go.Callee.value (Go.Operand.func 67), args := #[Go.Operand.tmp 9, Go.Operand.tmp 18], argTypes := #[31, 41] }, type := 41, pos := "ref.go:155", after := #[{ on := 0, ground := Go.Ground.data }, { on := 9, ground := Go.Ground.data }, { on := 9, ground := Go.Ground.chain }], guard := none }) rfl (fun KQ hKQ => ?_) AllReadyH.nil
    go_simp
    refine C5.out.mono ?_
    rintro e w3 ⟨rfl, hf3, hG3⟩
    have hf4 : w3.cell? ⟨p, 0, none⟩ = some (.pointer (some ⟨g, 0, none⟩)) ∧ w3.cell? ⟨p, 1, none⟩ = some (.int .i64 X.file) := by have a0 := hf3.c0; have a1 := hf3.c1; split at a1 <;> exact ⟨a0, a1⟩
    go_wp2_with fail
    refine hKQ.out _ _ ?s_10 (fun hHeld10 => ?_)
    case s_10 => exact hf4
    clear hKQ KQ
    try simp only [Act.put, List.setIfInBounds_toArray, List.set_cons_zero, List.set_cons_succ]
    refine wpAnyH_ready (rs := [11]) (by kernel_rfl) (by simp) ?_
    refine AllReadyH.cons (o := { dst := some 2, op := Go.Op.assign (Go.Operand.tmp 19), type := 41, pos := "ref.go:155", after := #[{ on := 10, ground := Go.Ground.data }, { on := 10, ground := Go.Ground.chain }, { on := 0, ground := Go.Ground.phase }, { on := 1, ground := Go.Ground.phase }, { on := 2, ground := Go.Ground.phase }, { on := 3, ground := Go.Ground.phase }, { on := 4, ground := Go.Ground.phase }, { on := 5, ground := Go.Ground.phase }, { on := 6, ground := Go.Ground.phase }, { on := 7, ground := Go.Ground.phase }, { on := 8, ground := Go.Ground.phase }, { on := 9, ground := Go.Ground.phase }, { on := 10, ground := Go.Ground.phase }], guard := none }) rfl (fun KQ hKQ => ?_) AllReadyH.nil
    go_simp
    refine hKQ.out _ _ ?s_11 (fun hHeld11 => ?_)
    case s_11 => exact hf4
    clear hKQ KQ
    try simp only [Act.put, List.setIfInBounds_toArray, List.set_cons_zero, List.set_cons_succ]
    refine wpAnyH_done (by kernel_rfl) ?_ _
    go_wp2_with fail
    go_ret
    first
    | exact RetX.fine HW.out hG2 HE.out hf3 hG3
    | exact RetX.failed HW.out hG2 HE.out hf3 hG3
theorem chg_mid {w w1 w2 w3 : World} {p g : Nat} {v : Value} (hw : Chg (fpW p g v) (fpW p g v) w w1) (hG : w1.grownBy w2 (some g)) (hG3 : w2.grownBy w3 (some p)) : Chg (fpW p g v) (fpW p g v) w w3 :=
  (hw.trans (Chg.grown hG (fun k hk => .inr (.inl (Option.some.inj hk).symm)) (fun k hk => .inl hk))).trans (Chg.grown hG3 (fun k hk => .inl (Option.some.inj hk).symm) (fun k hk => .inl hk))
theorem chg_of_below {fp : Nat → Prop} {w w' : World} (h : Below w.heap.size w w') : Chg fp fp w w' := ⟨h.os, h.tape, h.output, h.size, fun k hk _ => h.block k hk, fun k hk => .inl hk⟩
theorem str_R (r : List Int) : (⟨#[82]⟩ : ByteArray) ++ strOfNums r = strOfNums (82 :: r) := by
  apply ByteArray.ext
  simp [strOfNums]
/-- The log has one record more. -/
theorem RefW.more {w w' : World} {p g base : Nat} {X : WS} {D : DS} {v v' : Value} {r : List Int} {s : Nat} (h : RefW w p g base X D v) (hG : w.grownBy w' v.ownBlock) (hO : OwnV 9 w' base v' ((X.recs.map strV) ++ [strV r])) :
    RefW (w'.setCell ⟨p, 3, none⟩ v') p g base { X with recs := X.recs ++ [r], size := s } D v' := by
  have hp : w'.heap[p]? = w.heap[p]? := hG.block p h.blk.lt (fun e => h.vp e.symm)
  have hg : w'.heap[g]? = w.heap[g]? := hG.block g h.ref.lt (fun e => h.vg e.symm)
  have hb : Blk 80 w' p (rwV X g v) := by unfold Blk; rw [hp]; exact h.blk
  have hr : IsRef w' g D := h.ref.keep hg
  have hne : v'.ownBlock ≠ some p := fun e => by
    obtain ⟨_, cs, h2⟩ := ownV_block hO e
    unfold Blk at hb
    rw [hb] at h2
    simp only [Option.some.injEq, Obj.cells.injEq] at h2
    exact absurd h2.2.1 (by decide)
  refine ⟨Blk.set_ hb 3 v', ?_, hr.keep ((grown_set w' p 3 v').block g hr.lt (by intro e; exact h.pg (by simpa using e.symm)))⟩
  show OwnV _ _ _ _ ((X.recs ++ [r]).map strV)
  rw [List.map_append]
  exact hO.grown (grown_set w' p 3 v') (fun k hk e => hne (by rw [hk, ← e]))
set_option maxRecDepth 100000 in
set_option maxHeartbeats 2000000 in
theorem append_any (p g base : Nat) (X : WS) (D : DS) (v : Value) (r : List Int) (w : World) (h : RefW w p g base X D v) (hD : D.Good) (hs : D.stepped ≤ 999000) (hbs : base ≤ w.heap.size) (hF : Fit X D) (hr : Byt r) (hl : r.length ≤ 1099511627776) :
    Calls Try.prog 38 #[.pointer (some ⟨p, 0, none⟩), .string (strOfNums r)] w (RetX w p g base v (appendO X D r)) := by
  have hB0 : Below w.heap.size w (w.alloc (.cells #[strV r] 9)) := (Below.refl _ _).alloc (Nat.le_refl _) _
  have C := Lib.hid (may_any p g base X D v (w.alloc (.cells #[strV r] 9)) (h.below hB0) (some ⟨w.heap.size, 0, none⟩) 1 1 [r] (w.heap.size + 1) (RdV.one w 9 (strV r)) (by omega) (fun s hs => by rw [List.mem_singleton] at hs; subst hs; exact hl))
  have HB := Lib.hid (h.below hB0)
  have H0 := Lib.hid (chg_of_below (fp := fpW p g v) hB0)
  have HL := Lib.hid h.blk.lt
  have HLg := Lib.hid h.ref.lt
  have C2 := Lib.hid (fun (W : World) (hW : RefW W p g base X D v) => ref4.append_any g D X.file (recR r) W hW.ref hD (by omega))
  have C4 := Lib.hid (fun (W : World) (hW : RefW W p g base X (D.appS X.file (recR r)) v) => fails_any p g base X (D.appS X.file (recR r)) v W hW)
  clear h hB0
  have hz := strOfNums_size r
  by_cases hm : mayE X D [r] ≠ 0
  · have HO := Lib.hid (show appendO X D r = ⟨mayE X D [r], X, D⟩ by unfold appendO; rw [if_pos hm])
    obtain ⟨x, hx⟩ : ∃ x, mayE X D [r] = x := ⟨_, rfl⟩
    rw [hx] at hm C HO
    have hne : (x != 0) = true := by simpa using hm
    unfold strV at C
    clear hx hm C2 C4
    go_enter Try.func38, Try.ntmps38
    go_wp2_with fail
    refine C.out.mono ?_
    rintro e w1 ⟨rfl, q, rfl⟩
    go_wp2_with fail
    go_ret
    rw [HO.out]
    exact ⟨v, rfl, HB.out.drewN q, H0.out.trans (chg_drewN _ _ _)⟩
  · have hm : mayE X D [r] = 0 := by simpa using hm
    have HO1 := Lib.hid (show D.appE X.file (recR r) ≠ 0 → appendO X D r = halt X (D.appS X.file (recR r)) (D.appE X.file (recR r)) from fun k => by unfold appendO; rw [if_neg (by omega), if_pos k])
    have HO2 := Lib.hid (show D.appE X.file (recR r) = 0 → appendO X D r = ⟨0, { X with recs := X.recs ++ [r], size := X.size + (recR r).length }, D.appS X.file (recR r)⟩ from fun k => by unfold appendO; rw [if_neg (by omega), if_neg (by omega)])
    have hlen := (may_ok hm).2 r (List.mem_singleton_self _)
    have hrl : (82 :: r).length = r.length + 1 := rfl
    have hYr : Byt (82 :: r) := (Byt.one (by decide) (by decide) : Byt [82]).append hr
    have hcl : (recR r).length ≤ 1099511627776 := by unfold recR; rw [recB_length]; omega
    rw [hm] at C
    obtain ⟨x, hx⟩ : ∃ x, D.appE X.file (recR r) = x := ⟨_, rfl⟩
    rw [hx] at HO1 HO2
    have C2 := Lib.hid (show ∀ (W : World), RefW W p g base X D v → Calls Try.prog 36 #[.pointer (some ⟨g, 0, none⟩), .int .i64 X.file, .string (strOfNums (recR r))] W (RetR W g (D.appS X.file (recR r)) (.int .i64 x)) from fun W hW => by rw [← hx]; exact C2.out W hW hcl)
    have hadd := fun wx => run_string_add_sum (P := Try.prog) wx ⟨#[82]⟩ (strOfNums r) (by rw [strOfNums_size]; show 1 + r.length ≤ _; omega)
    simp only [str_R] at hadd
    unfold strV at C
    clear hm hx
    go_enter Try.func38, Try.ntmps38
    go_wp2_with fail
    refine C.out.mono ?_
    rintro e w1 ⟨rfl, q, hw1⟩
    have H1 := Lib.hid (show RefW w1 p g base X D v from by rw [hw1]; exact HB.out.drewN q)
    have HW := Lib.hid (show Chg (fpW p g v) (fpW p g v) w w1 from by rw [hw1]; exact H0.out.trans (chg_drewN _ _ _))
    clear hw1 C
    obtain ⟨m, hm1⟩ : ∃ m, (82 :: r).length = m := ⟨_, rfl⟩
    go_wp2_with (with_reducible refine wpList_of_string rfl (.tmp 17) 9 35 5 rfl Try.underlying9 Try.underlying35 Try.underlying5 (82 :: r) m hm1 hYr ?hk1 rfl ?_)
    case hk1 => omega
    intro A2 c2 w2 hR2 hc2 hc2m hB2
    have C5 := Lib.hid (ref3.put3_any none 0 0 [] A2 m c2 (82 :: r) w2 (Rd.nil _ _ _) hR2 hYr (by omega) (by omega) hc2 hc2m)
    go_wp2_with fail
    refine C5.out.mono ?_
    rintro e w3 ⟨A3, c3, rfl, hl3, hO3, hB3⟩
    clear C5
    rw [List.nil_append, Nat.zero_add, show recB (82 :: r) = recR r from rfl] at hl3 hO3
    have hB13 := hB2.trans (hB3.mono hB2.size)
    have H3 := Lib.hid ((H1.out.below hB13).below (w' := w3.drew) (drewN_below w3 1 _))
    have HW3 := Lib.hid ((HW.out.trans (chg_of_below hB13)).trans (chg_drewN _ w3 1))
    have hpg : p < w2.heap.size ∧ g < w2.heap.size := by have := H1.out.blk.lt; have := H1.out.ref.lt; have := hB2.size; omega
    have HCV := Lib.hid (show ∀ wq : World, w3.heap.size ≤ wq.heap.size → (∀ k, w2.heap.size ≤ k ∧ k < w3.heap.size → wq.heap[k]? = w3.heap[k]?) → (convert 35 9 (.slice A3 (8 + m) c3)).run Try.prog wq = .ok (.string (strOfNums (recR r))) wq from fun wq hsz hk => by
      have hO : Own 5 wq w2.heap.size (.slice A3 (8 + m) c3) (recR r) := by
        refine ⟨hO3.1, ?_⟩
        rcases hO3.2 with hn | ⟨g0, cap, cur, hv, hb, hg, rr⟩
        · exact .inl hn
        · exact .inr ⟨g0, cap, cur, hv, hb, by rw [hk g0 ⟨hb, (Array.getElem?_eq_some_iff.1 hg).1⟩]; exact hg, rr⟩
      exact run_string_rd wq 35 5 9 Try.underlying35 Try.underlying5 Try.underlying9 wq.heap.size A3 (8 + m) c3 (recR r) (hO.rd hl3))
    have C6 := Lib.hid (C2.out w3.drew H3.out)
    have hs3 : w3.drew.cell? ⟨p, 0, none⟩ = some (.pointer (some ⟨g, 0, none⟩)) ∧ w3.drew.cell? ⟨p, 1, none⟩ = some (.int .i64 X.file) ∧ (convert 35 9 (.slice A3 (8 + m) c3)).run Try.prog w3.drew = .ok (.string (strOfNums (recR r))) w3.drew := ⟨H3.out.c0, H3.out.c1, HCV.out w3.drew (Nat.le_refl _) (fun k hk => rfl)⟩
    generalize strOfNums (recR r) = T at *
    clear hO3 hl3 hR2 C2
    go_wp2_with fail
    refine wp_region_held_drew (S := fun wq => wq.cell? ⟨p, 0, none⟩ = some (.pointer (some ⟨g, 0, none⟩)) ∧ wq.cell? ⟨p, 1, none⟩ = some (.int .i64 X.file) ∧ (convert 35 9 (.slice A3 (8 + m) c3)).run Try.prog wq = .ok (.string T) wq) (by kernel_rfl) ?s_0 (fun hHeld => ?_)
    case s_0 => exact hs3
    clear hs3
    refine wpAnyH_take (i := 0) (oi := { dst := some 22, op := Go.Op.move (Go.Operand.tmp 0), type := 31, pos := "ref.go:142", after := #[], guard := none }) (v := ?v_0_2) rfl (by kernel_rfl) (by kernel_rfl) (by kernel_rfl) (fun _ _ _ h => h) (Or.inl ⟨by rfl, ?y_0_2⟩) (by assumption) ?_
    case y_0_2 => (intro wq hSw; (try dsimp only at hSw); go_simp; first | done | with_reducible rfl)
    try simp only [Act.put, List.setIfInBounds_toArray, List.set_cons_zero, List.set_cons_succ]
    refine wpAnyH_take (i := 1) (oi := { dst := some 23, op := Go.Op.move (Go.Operand.tmp 0), type := 31, pos := "ref.go:142", after := #[], guard := none }) (v := ?v_1_2) rfl (by kernel_rfl) (by kernel_rfl) (by kernel_rfl) (fun _ _ _ h => h) (Or.inl ⟨by rfl, ?y_1_2⟩) (by assumption) ?_
    case y_1_2 => (intro wq hSw; (try dsimp only at hSw); go_simp; first | done | with_reducible rfl)
    try simp only [Act.put, List.setIfInBounds_toArray, List.set_cons_zero, List.set_cons_succ]
    refine wpAnyH_take (i := 2) (oi := { dst := some 24, op := Go.Op.nilCheck (Go.Operand.tmp 23), type := 0, pos := "ref.go:142", after := #[{ on := 1, ground := Go.Ground.data }], guard := none }) (v := ?v_2_2) rfl (by kernel_rfl) (by kernel_rfl) (by kernel_rfl) (fun _ _ _ h => h) (Or.inl ⟨by rfl, ?y_2_2⟩) (by assumption) ?_
    case y_2_2 => (intro wq hSw; (try dsimp only at hSw); go_simp; first | done | with_reducible rfl)
    try simp only [Act.put, List.setIfInBounds_toArray, List.set_cons_zero, List.set_cons_succ]
    refine wpAnyH_take (i := 3) (oi := { dst := some 25, op := Go.Op.fieldAddr 80 (Go.Operand.tmp 24) 0, type := 0, pos := "ref.go:142", after := #[{ on := 2, ground := Go.Ground.data }], guard := none }) (v := ?v_3_2) rfl (by kernel_rfl) (by kernel_rfl) (by kernel_rfl) (fun _ _ _ h => h) (Or.inl ⟨by rfl, ?y_3_2⟩) (by assumption) ?_
    case y_3_2 => (intro wq hSw; (try dsimp only at hSw); go_simp; first | done | with_reducible rfl)
    try simp only [Act.put, List.setIfInBounds_toArray, List.set_cons_zero, List.set_cons_succ]
    refine wpAnyH_take (i := 4) (oi := { dst := some 26, op := Go.Op.load 28 (Go.Operand.tmp 25), type := 28, pos := "ref.go:142", after := #[{ on := 3, ground := Go.Ground.data }], guard := none }) (v := ?v_4_2) rfl (by kernel_rfl) (by kernel_rfl) (by kernel_rfl) (fun _ _ _ h => h) (Or.inl ⟨by rfl, ?y_4_2⟩) (by assumption) ?_
    case y_4_2 => (intro wq hSw; (try dsimp only at hSw); go_simp; first | done | with_reducible rfl)
    try simp only [Act.put, List.setIfInBounds_toArray, List.set_cons_zero, List.set_cons_succ]
    refine wpAnyH_take (i := 5) (oi := { dst := some 27, op := Go.Op.move (Go.Operand.tmp 0), type := 31, pos := "ref.go:142", after := #[], guard := none }) (v := ?v_5_2) rfl (by kernel_rfl) (by kernel_rfl) (by kernel_rfl) (fun _ _ _ h => h) (Or.inl ⟨by rfl, ?y_5_2⟩) (by assumption) ?_
    case y_5_2 => (intro wq hSw; (try dsimp only at hSw); go_simp; first | done | with_reducible rfl)
    try simp only [Act.put, List.setIfInBounds_toArray, List.set_cons_zero, List.set_cons_succ]
    refine wpAnyH_take (i := 6) (oi := { dst := some 28, op := Go.Op.nilCheck (Go.Operand.tmp 27), type := 0, pos := "ref.go:142", after := #[{ on := 5, ground := Go.Ground.data }], guard := none }) (v := ?v_6_2) rfl (by kernel_rfl) (by kernel_rfl) (by kernel_rfl) (fun _ _ _ h => h) (Or.inl ⟨by rfl, ?y_6_2⟩) (by assumption) ?_
    case y_6_2 => (intro wq hSw; (try dsimp only at hSw); go_simp; first | done | with_reducible rfl)
    try simp only [Act.put, List.setIfInBounds_toArray, List.set_cons_zero, List.set_cons_succ]
    refine wpAnyH_take (i := 7) (oi := { dst := some 29, op := Go.Op.fieldAddr 80 (Go.Operand.tmp 28) 1, type := 0, pos := "ref.go:142", after := #[{ on := 6, ground := Go.Ground.data }], guard := none }) (v := ?v_7_2) rfl (by kernel_rfl) (by kernel_rfl) (by kernel_rfl) (fun _ _ _ h => h) (Or.inl ⟨by rfl, ?y_7_2⟩) (by assumption) ?_
    case y_7_2 => (intro wq hSw; (try dsimp only at hSw); go_simp; first | done | with_reducible rfl)
    try simp only [Act.put, List.setIfInBounds_toArray, List.set_cons_zero, List.set_cons_succ]
    refine wpAnyH_take (i := 8) (oi := { dst := some 30, op := Go.Op.load 3 (Go.Operand.tmp 29), type := 3, pos := "ref.go:142", after := #[{ on := 7, ground := Go.Ground.data }], guard := none }) (v := ?v_8_2) rfl (by kernel_rfl) (by kernel_rfl) (by kernel_rfl) (fun _ _ _ h => h) (Or.inl ⟨by rfl, ?y_8_2⟩) (by assumption) ?_
    case y_8_2 => (intro wq hSw; (try dsimp only at hSw); go_simp; first | done | with_reducible rfl)
    try simp only [Act.put, List.setIfInBounds_toArray, List.set_cons_zero, List.set_cons_succ]
    refine wpAnyH_take (i := 9) (oi := { dst := some 31, op := Go.Op.move (Go.Operand.tmp 6), type := 35, pos := "ref.go:142", after := #[], guard := none }) (v := ?v_9_2) rfl (by kernel_rfl) (by kernel_rfl) (by kernel_rfl) (fun _ _ _ h => h) (Or.inl ⟨by rfl, ?y_9_2⟩) (by assumption) ?_
    case y_9_2 => (intro wq hSw; (try dsimp only at hSw); go_simp; first | done | with_reducible rfl)
    try simp only [Act.put, List.setIfInBounds_toArray, List.set_cons_zero, List.set_cons_succ]
    refine wpAnyH_take (i := 10) (oi := { dst := some 32, op := Go.Op.convert 35 9 (Go.Operand.tmp 31), type := 9, pos := "ref.go:142", after := #[{ on := 9, ground := Go.Ground.data }], guard := none }) (v := ?v_10_2) rfl (by kernel_rfl) (by kernel_rfl) (by kernel_rfl) (fun _ _ _ h => h) (Or.inl ⟨by rfl, ?y_10_2⟩) (by assumption) ?_
    case y_10_2 => (intro wq hSw; (try dsimp only at hSw); go_simp; first | done | with_reducible rfl)
    try simp only [Act.put, List.setIfInBounds_toArray, List.set_cons_zero, List.set_cons_succ]
    refine wpAnyH_ready (rs := [11]) (by kernel_rfl) (by simp) ?_
    refine AllReadyH.cons (o := { dst := some 33, op := Go.Op.call { callee := Go.Callee.value (Go.Operand.func 36), args := #[Go.Operand.tmp 26, Go.Operand.tmp 30, Go.Operand.tmp 32], argTypes := #[28, 3, 9] }, type := 41, pos := "ref.go:142", after := #[{ on := 4, ground := Go.Ground.data }, { on := 8, ground := Go.Ground.data }, { on := 10, ground := Go.Ground.data }], guard := none }) rfl (fun KQ hKQ => ?_) AllReadyH.nil
    go_simp
    refine C6.out.mono ?_
    rintro e w4 ⟨rfl, hr4, hG4⟩
    have h4 := H3.out.disk hr4 hG4
    have s4 := HCV.out w4 hG4.size (fun k hk => hG4.block k hk.2 (by simp; omega))
    have C7 := Lib.hid (C4.out w4 h4 x)
    clear C6 C4
    go_wp2_with fail
    refine hKQ.out _ _ ?s_11 (fun hHeld11 => ?_)
    case s_11 => exact ⟨h4.c0, h4.c1, s4⟩
    clear hKQ KQ
    try simp only [Act.put, List.setIfInBounds_toArray, List.set_cons_zero, List.set_cons_succ]
    refine wpAnyH_ready (rs := [12]) (by kernel_rfl) (by simp) ?_
    refine AllReadyH.cons (o := { dst := some 34, op := Go.Op.call { callee := Go.Callee.value (Go.Operand.func 67), args := #[Go.Operand.tmp 22, Go.Operand.tmp 33], argTypes := #[31, 41] }, type := 41, pos := "ref.go:142", after := #[{ on := 0, ground := Go.Ground.data }, { on := 11, ground := Go.Ground.data }, { on := 11, ground := Go.Ground.chain }], guard := none }) rfl (fun KQ hKQ => ?_) AllReadyH.nil
    go_simp
    refine C7.out.mono ?_
    rintro e w5 ⟨rfl, hf5, hG5⟩
    have s5 := HCV.out w5 (Nat.le_trans hG4.size hG5.size) (fun k hk => (hG5.block k (Nat.lt_of_lt_of_le hk.2 hG4.size) (by simp; omega)).trans (hG4.block k hk.2 (by simp; omega)))
    have hf6 : w5.cell? ⟨p, 0, none⟩ = some (.pointer (some ⟨g, 0, none⟩)) ∧ w5.cell? ⟨p, 1, none⟩ = some (.int .i64 X.file) := by have a0 := hf5.c0; have a1 := hf5.c1; split at a1 <;> exact ⟨a0, a1⟩
    go_wp2_with fail
    refine hKQ.out _ _ ?s_12 (fun hHeld12 => ?_)
    case s_12 => exact ⟨hf6.1, hf6.2, s5⟩
    clear hKQ KQ
    try simp only [Act.put, List.setIfInBounds_toArray, List.set_cons_zero, List.set_cons_succ]
    refine wpAnyH_ready (rs := [13]) (by kernel_rfl) (by simp) ?_
    refine AllReadyH.cons (o := { dst := some 5, op := Go.Op.assign (Go.Operand.tmp 34), type := 41, pos := "ref.go:142", after := #[{ on := 12, ground := Go.Ground.data }, { on := 12, ground := Go.Ground.chain }, { on := 0, ground := Go.Ground.phase }, { on := 1, ground := Go.Ground.phase }, { on := 2, ground := Go.Ground.phase }, { on := 3, ground := Go.Ground.phase }, { on := 4, ground := Go.Ground.phase }, { on := 5, ground := Go.Ground.phase }, { on := 6, ground := Go.Ground.phase }, { on := 7, ground := Go.Ground.phase }, { on := 8, ground := Go.Ground.phase }, { on := 9, ground := Go.Ground.phase }, { on := 10, ground := Go.Ground.phase }, { on := 11, ground := Go.Ground.phase }, { on := 12, ground := Go.Ground.phase }], guard := none }) rfl (fun KQ hKQ => ?_) AllReadyH.nil
    go_simp
    refine hKQ.out _ _ ?s_13 (fun hHeld13 => ?_)
    case s_13 => exact ⟨hf6.1, hf6.2, s5⟩
    clear hKQ KQ
    try simp only [Act.put, List.setIfInBounds_toArray, List.set_cons_zero, List.set_cons_succ]
    refine wpAnyH_done (by kernel_rfl) ?_ _
    by_cases hx0 : x = 0
    · have HO := Lib.hid (HO2.out hx0)
      rw [if_pos hx0] at hf5
      subst hx0
      have H5 := Lib.hid hf5
      have HW5 := Lib.hid (chg_mid HW3.out hG4 hG5)
      have hbs5 : base ≤ w5.heap.size := by have := HW5.out.size; omega
      have hmany := hF.many
      clear HO1 HO2 hf5 HW3 HW H1 HB H0 H3 HCV hHeld hHeld11 hHeld12 hHeld13 hf6 s5 s4 h4 hadd hB2 hB3 hB13
      have hsl := H5.out.own.slice
      rw [List.length_map] at hsl
      obtain ⟨Av, cv, rfl, hcv, hcvm, _⟩ := hsl
      have hln : (X.recs.map strV).length = X.recs.length := List.length_map _
      have H6 := Lib.hid (H5.out.below (w' := w5.alloc (.cells #[strV r] 9)) ((Below.refl _ _).alloc (Nat.le_refl _) _))
      have HW6 := Lib.hid (HW5.out.trans (chg_of_below (w' := w5.alloc (.cells #[strV r] 9)) ((Below.refl _ _).alloc (Nat.le_refl _) _)))
      have hO6 : OwnV 9 (w5.alloc (.cells #[.string (strOfNums r)] 9)) base (.slice Av X.recs.length cv) (X.recs.map strV) := H6.out.own
      have c3 := H5.out.c3
      generalize X.recs.length = n0 at *
      obtain ⟨ys, hys⟩ : ∃ ys, X.recs.map strV = ys := ⟨_, rfl⟩
      rw [hys] at hO6 hln
      have HYS := Lib.hid hys
      clear hys
      go_wp2_with (at_builtin; with_reducible refine wpList_append_vf rfl (.tmp 41) (.tmp 43) 44 rfl base 9 (.string ⟨#[]⟩) 16 Try.underlying44 infoS rfl Av n0 cv _ hln rfl hO6 _ _ 1 1 [_] rfl (RdV.one _ _ _) ?k1 ?k2 ?k3 ?k4 ?_)
      case k1 => first | rfl | (intro u hu; rw [List.mem_singleton] at hu; subst hu; rfl)
      case k2 => omega
      case k3 => unfold maxLen; omega
      case k4 => first | omega | (simp; omega)
      intro A7 c7 w7 hO7 hB7 hG7 hN7
      have hp7 : Blk 80 w7 p (rwV X g (.slice Av n0 cv)) := by
        have := hG7.block p H6.out.blk.lt (fun e => H6.out.vp e.symm)
        exact this.trans H6.out.blk
      have d3 : w7.cell? ⟨p, 3, none⟩ = some (.slice Av n0 cv) := by rw [hp7.cell]; rfl
      have df := hp7.frozen 3
      clear c3 hp7
      go_wp2_with fail
      go_ret
      rw [HO.out]
      have hm7 := H6.out.more (w' := w7) (v' := .slice A7 (n0 + 1) c7) (r := r) (s := X.size + (recR r).length) hG7 (by rw [HYS.out]; exact hO7)
      refine ⟨_, rfl, hm7, (HW6.out.trans (Chg.grown (fp' := fpW p g (.slice A7 (n0 + 1) c7)) hG7 (fun k hk => .inr (.inr hk)) (fun k hk => ?_))).trans (Chg.grown (grown_set w7 p 3 _) (fun k hk => .inl (Option.some.inj hk).symm) (fun k hk => .inl hk))⟩
      rcases hk with hk | hk | hk
      · exact .inl (.inl hk)
      · exact .inl (.inr (.inl hk))
      · rcases hN7 k hk with h8 | h8
        · exact .inl (.inr (.inr h8))
        · exact .inr (by simpa using h8)
    · have HO := Lib.hid (HO1.out hx0)
      have hne : (x == 0) = false := by simpa using hx0
      have HE := Lib.hid hx0
      clear HO1 HO2 hx0
      go_wp2_with fail
      go_ret
      rw [HO.out]
      exact RetX.failed HW3.out hG4 HE.out hf5 hG5
end Go.Proofs.Ytafdgibkhefplaa.ref5
