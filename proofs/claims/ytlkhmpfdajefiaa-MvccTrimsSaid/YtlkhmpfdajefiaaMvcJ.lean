/- What the program's insert and keep (mvcc) come to. Conditions: those that each theorem names. -/
import Derived.Test.YtlkhmpfdajefiaaMvcB
import Derived.Test.YtlkhmpfdajefiaaMvcI
import Derived.Test.YtlkhmpfdajefiaaRef8f
import Derived.Test.YtlkhmpfdajefiaaRef8l
namespace Go.Proofs.Ytlkhmpfdajefiaa.mvi
open Go Go.RowKit Go.Proofs.Ytlkhmpfdajefiaa.kit Go.Proofs.Ytlkhmpfdajefiaa.nums Go.Proofs.Ytlkhmpfdajefiaa.st Go.Proofs.Ytlkhmpfdajefiaa.mv Go.Proofs.Ytlkhmpfdajefiaa.ref8 Go.Proofs.Ytlkhmpfdajefiaa.ins
set_option linter.unusedVariables false

/-- A version, written in place. -/
theorem own_put {w : World} {base g n c i : Nat} {vs : List VerL} {x v : VerL} (h : OwnVs w base (.slice (some ⟨g, 0, none⟩) n c) vs) (hn : vs.length = n) (hx : vs[i]? = some x) :
    OwnVs ((((w.setCell ⟨g, i * 4, none⟩ (.int .i64 v.at_.wall)).setCell ⟨g, i * 4 + 1, none⟩ (.int .i64 v.at_.tie)).setCell ⟨g, i * 4 + 2, none⟩ (.bool v.drop)).setCell ⟨g, i * 4 + 3, none⟩ (.string v.data)) base (.slice (some ⟨g, 0, none⟩) n c) (vs.set i v) ∧ w.grownBy ((((w.setCell ⟨g, i * 4, none⟩ (.int .i64 v.at_.wall)).setCell ⟨g, i * 4 + 1, none⟩ (.int .i64 v.at_.tie)).setCell ⟨g, i * 4 + 2, none⟩ (.bool v.drop)).setCell ⟨g, i * 4 + 3, none⟩ (.string v.data)) (some g) := by
  unfold OwnVs at h ⊢
  rw [hn] at h
  rw [List.length_set, hn]
  have e : ((((vs.flatMap verC).set (i * 4) (.int .i64 v.at_.wall)).set (i * 4 + 1) (.int .i64 v.at_.tie)).set (i * 4 + 2) (.bool v.drop)).set (i * 4 + 3) (.string v.data) = (vs.set i v).flatMap verC := by
    obtain ⟨⟨p, q⟩, r, s⟩ := x
    obtain ⟨⟨p', q'⟩, r', s'⟩ := v
    have hi := (List.getElem?_eq_some_iff.1 hx).1
    have S : ∀ (y y' : VerL) (q : Nat) (u : Value), q < 4 → verC y' = (verC y).set q u → ((vs.set i y).flatMap verC).set (i * 4 + q) u = (vs.set i y').flatMap verC := fun y y' q u hq hy => by
      rw [row_set verC 4 ver_len _ i q y y' u (by rw [List.getElem?_set, if_pos rfl, if_pos hi]) hq hy, List.set_set]
    have h0 := row_set verC 4 ver_len vs i 0 ⟨⟨p, q⟩, r, s⟩ ⟨⟨p', q⟩, r, s⟩ (.int .i64 p') hx (by omega) rfl
    rw [Nat.add_zero] at h0
    dsimp only
    rw [h0, S ⟨⟨p', q⟩, r, s⟩ ⟨⟨p', q'⟩, r, s⟩ 1 _ (by omega) rfl, S ⟨⟨p', q'⟩, r, s⟩ ⟨⟨p', q'⟩, r', s⟩ 2 _ (by omega) rfl, S ⟨⟨p', q'⟩, r', s⟩ ⟨⟨p', q'⟩, r', s'⟩ 3 _ (by omega) rfl]
  rw [← e]
  obtain ⟨h1, g1⟩ := h.stored (i * 4) (.int .i64 v.at_.wall)
  obtain ⟨h2, g2⟩ := h1.stored (i * 4 + 1) (.int .i64 v.at_.tie)
  obtain ⟨h3, g3⟩ := h2.stored (i * 4 + 2) (.bool v.drop)
  obtain ⟨h4, g4⟩ := h3.stored (i * 4 + 3) (.string v.data)
  have tr : ∀ {a b c : World}, a.grownBy b (some g) → b.grownBy c (some g) → a.grownBy c (some g) := fun p q => ⟨q.os.trans p.os, q.tape.trans p.tape, q.output.trans p.output, Nat.le_trans p.size q.size, fun j hj hne => (q.block j (Nat.lt_of_lt_of_le hj p.size) hne).trans (p.block j hj hne)⟩
  exact ⟨h4, tr (tr (tr g1 g2) g3) g4⟩
theorem grown_trans {a b c : World} {row : Option Nat} (p : a.grownBy b row) (q : b.grownBy c row) : a.grownBy c row :=
  ⟨q.os.trans p.os, q.tape.trans p.tape, q.output.trans p.output, Nat.le_trans p.size q.size, fun j hj hne => (q.block j (Nat.lt_of_lt_of_le hj p.size) hne).trans (p.block j hj hne)⟩
theorem grown_below {a b : World} {row : Option Nat} (h : Below a.heap.size a b) : a.grownBy b row := ⟨h.os, h.tape, h.output, h.size, fun j hj _ => h.block j hj⟩
theorem vers_one (vs : List VerL) : ∀ u ∈ vs.flatMap verC, u.oneCell' = true := fun u hu => by
  obtain ⟨v, _, hv⟩ := List.mem_flatMap.1 hu
  exact ver_one v u hv
/-- What insert ends in. -/
def RetIns (w : World) (base : Nat) (A : Option Addr) (n c : Nat) (rs : List VerL) (e : Ending) (w' : World) : Prop :=
  ∃ A' c', e = .returned (.slice A' rs.length c') ∧ OwnVs w' base (.slice A' rs.length c') rs ∧ Below base w w' ∧ w.grownBy w' (Value.ownBlock (.slice A n c))
set_option maxRecDepth 100000 in
set_option maxHeartbeats 4000000 in
theorem insert_any (A : Option Addr) (n c : Nat) (vs : List VerL) (v : VerL) (w : World) (base : Nat) (hO : OwnVs w base (.slice A n c) vs) (hn : vs.length = n) (hb : n ≤ 1000) (hs : vs.Pairwise (fun a b => lessF a.at_ b.at_ = true)) (hbase : base ≤ w.heap.size) :
    Calls Try.prog 45 #[.slice A n c, .agg #[.int .i64 v.at_.wall, .int .i64 v.at_.tie, .bool v.drop, .string v.data]] w (RetIns w base A n c (withF v vs)) := by
  subst hn
  have hB0 : Hid (Below w.heap.size w (w.alloc (.cells #[.int .i64 v.at_.wall, .int .i64 v.at_.tie, .bool v.drop, .string v.data] 47))) := (Below.refl _ _).alloc (Nat.le_refl _) _
  have k0 : Hid (Blk 47 (w.alloc (.cells #[.int .i64 v.at_.wall, .int .i64 v.at_.tie, .bool v.drop, .string v.data] 47)) w.heap.size [.int .i64 v.at_.wall, .int .i64 v.at_.tie, .bool v.drop, .string v.data]) := heap_alloc_new w _
  have hown : ∀ q, Value.ownBlock (.slice A vs.length c) = some q → q < w.heap.size := fun q hq => (World.ownsRow.lt hO q hq).2
  have RC := Lib.hid (fun (wq : World) (h : Below w.heap.size w wq) => (show Calls Try.prog 39 #[.slice A vs.length c, .agg #[.int .i64 v.at_.wall, .int .i64 v.at_.tie]] wq _ from reach_any A vs.length c vs v.at_ wq wq.heap.size (by
    obtain ⟨A2, c2, e, _, _, hR⟩ := (hO.below h).vsIn.rd
    simp only [Value.slice.injEq] at e
    obtain ⟨rfl, _, rfl⟩ := e
    exact hR) (Nat.le_refl _) hb hs))
  -- what is new goes in by slices.Insert
  have HINS : Hid (∀ (k : Nat) (ki : Int) (wq : World) (g : Nat), wq.heap.size = g → ki = (k : Int) → Below w.heap.size w wq → Rch vs v.at_ k → (∀ u, 0 < k → vs[k - 1]? = some u → u.at_ ≠ v.at_) → Calls Try.prog 54 #[.slice A vs.length c, .int .i64 ki, .slice (some ⟨g, 0, none⟩) 1 1] (wq.alloc (.cells #[.int .i64 v.at_.wall, .int .i64 v.at_.tie, .bool v.drop, .string v.data] 47)) (RetIns w base A vs.length c (withF v vs))) := fun k ki wq g hg hki hq hR hne => by
    subst hg hki
    have hOq : OwnVs (wq.alloc (.cells #[.int .i64 v.at_.wall, .int .i64 v.at_.tie, .bool v.drop, .string v.data] 47)) base (.slice A vs.length c) vs := (hO.below hq).below ((Below.refl _ _).alloc (Nat.le_refl _) _)
    have hU : Blk 47 (wq.alloc (.cells #[.int .i64 v.at_.wall, .int .i64 v.at_.tie, .bool v.drop, .string v.data] 47)) wq.heap.size (verC v) := heap_alloc_new wq _
    have hBq : Below w.heap.size w (wq.alloc (.cells #[.int .i64 v.at_.wall, .int .i64 v.at_.tie, .bool v.drop, .string v.data] 47)) := hq.alloc hq.size (.cells #[.int .i64 v.at_.wall, .int .i64 v.at_.tie, .bool v.drop, .string v.data] 47)
    refine (insV_any A vs.length c k (vs.flatMap verC) (verC v) (wq.alloc (.cells #[.int .i64 v.at_.wall, .int .i64 v.at_.tie, .bool v.drop, .string v.data] 47)) base wq.heap.size hOq hR.1 (vers_one vs) rfl (ver_one v) hU (fun e => by have := hown _ e; have := hq.size; omega) (by omega) (by simp; have := hq.size; omega)).mono ?_
    rintro e w5 ⟨A', c', rfl, hO5, hB5, hG5⟩
    have hW := ins_new hs hR hne
    have hlen : (withF v vs).length = vs.length + 1 := by rw [hW]; simp only [List.length_append, List.length_cons, List.length_take, List.length_drop]; have := hR.1; omega
    refine ⟨A', c', by rw [hlen], ?_, (hBq.mono hbase).trans hB5, grown_trans (grown_below hBq) hG5⟩
    unfold OwnVs
    rw [hlen, hW, List.flatMap_append, List.flatMap_cons, row_take verC 4 ver_len, row_drop verC 4 ver_len, ← List.append_assoc]
    exact hO5
  have HPUT : Hid (∀ (j : Nat) (wq : World) (u : VerL) (g : Nat), A = some ⟨g, 0, none⟩ → Below w.heap.size w wq → vs[j]? = some u → u.at_ = v.at_ → RetIns w base A vs.length c (withF v vs) (.returned (.slice A vs.length c)) ((((wq.setCell ⟨g, j * 4, none⟩ (.int .i64 v.at_.wall)).setCell ⟨g, j * 4 + 1, none⟩ (.int .i64 v.at_.tie)).setCell ⟨g, j * 4 + 2, none⟩ (.bool v.drop)).setCell ⟨g, j * 4 + 3, none⟩ (.string v.data))) := fun j wq u g hA hq hu he => by
    subst hA
    obtain ⟨h1, h2⟩ := own_put (v := v) (hO.below hq) rfl hu
    have hW := ins_over hs hu he
    have hg := hown g rfl
    have hgb := (World.ownsRow.lt hO g rfl).1
    refine ⟨_, c, by rw [hW, List.length_set], by rw [hW, List.length_set]; exact h1, ?_, grown_trans (grown_below hq) h2⟩
    exact ((((hq.mono hbase).setCell (p := ⟨g, j * 4, none⟩) hgb _).setCell (p := ⟨g, j * 4 + 1, none⟩) hgb _).setCell (p := ⟨g, j * 4 + 2, none⟩) hgb _).setCell (p := ⟨g, j * 4 + 3, none⟩) hgb _
  have HAT := Lib.hid (fun (wq : World) (h : Below w.heap.size w wq) (j : Nat) (hj : j < vs.length) => (hO.below h).vsIn.at_ hj)
  have HFZ : Hid (∀ (wq : World), Below w.heap.size w wq → ∀ g, A = some ⟨g, 0, none⟩ → ∀ q, wq.frozen? ⟨g, q, none⟩ = false) := fun wq hq g hA q => by
    subst hA
    rcases (hO.below hq).2 with ⟨hv, _⟩ | ⟨g', cap, cur, hv, _, hg, _⟩
    · simp at hv
    · simp only [Value.slice.injEq, Option.some.injEq, Addr.mk.injEq, and_true, true_and] at hv
      obtain ⟨rfl, _⟩ := hv
      exact frozen_of_row wq g q cur _ hg
  have HFORM : Hid (∀ b o, A = some ⟨b, o, none⟩ → o = 0) := fun b o hA => by
    subst hA
    rcases hO.2 with ⟨hv, _⟩ | ⟨g', cap, cur, hv, _⟩
    · simp at hv
    · simp only [Value.slice.injEq, Option.some.injEq, Addr.mk.injEq, and_true] at hv
      exact hv.1.2
  clear hO hown hs
  go_enter Try.func45, Try.ntmps45
  go_upto_region 1 with (fail)
  obtain ⟨c0, c1, c2, c3⟩ := blk4 k0.out
  generalize (w.alloc (.cells #[.int .i64 v.at_.wall, .int .i64 v.at_.tie, .bool v.drop, .string v.data] 47)) = w1 at *
  have hs1 := k0.out.lt
  go_wp2_with fail
  refine (RC.out _ hB0.out).mono ?_
  rintro e w2 ⟨k, rfl, hR, hB2⟩
  have hB12 := hB0.out.trans (hB2.mono hB0.out.size)
  clear c0 c1 c2 c3 RC
  obtain ⟨c0, c1, c2, c3⟩ := blk4 (k0.out.below hB2 hs1)
  have hs2 := hB2.size
  rcases k with _ | j
  · have IN := Lib.hid (fun q => HINS.out 0 0 (w2.drewN q) w2.heap.size (by simp) rfl (below_drewN hB12 _) hR (fun u h => absurd h (by omega)))
    clear HINS HPUT HAT hR HFZ HFORM
    go_wp2_with fail
    go_quiet (fail)
    go_wp2_with fail
    refine (IN.out _).mono ?_
    rintro e w5 ⟨A', c', rfl, hO5, hB5, hG5⟩
    have HO5 := Lib.hid hO5
    clear hO5 IN
    go_wp2_with fail
    go_ret
    exact ⟨A', c', rfl, HO5.out, hB5, hG5⟩
  · have hjn : j < vs.length := by have := hR.1; omega
    obtain ⟨b, o, u, rfl, hbb, hbl, hu, hA⟩ := HAT.out _ hB12 j hjn
    obtain rfl := HFORM.out b o rfl
    rw [Nat.zero_add] at hA
    obtain ⟨u0, u1, u2, u3⟩ := at4 hA
    have heq := fun w => eq_st u.at_ v.at_ w
    have hjd : ((j + 1 : Nat) : Int) - 1 = (j : Int) := by omega
    have hj1 : ((j + 1 : Nat) : Int) > 0 := by omega
    have hjw : IntKind.i64.wrap (j : Int) = (j : Int) := by rw [IntKind.wrap_i64]; omega
    have hjl : (j : Int) < (vs.length : Int) := by omega
    by_cases he : u.at_ = v.at_
    · have HP := Lib.hid (fun q => HPUT.out j (w2.drewN q) u b rfl (below_drewN hB12 _) hu he)
      have df := fun q => HFZ.out w2 hB12 b rfl q
      simp only [decide_eq_true he] at heq
      clear HINS HPUT HAT hR HFZ HFORM hu he hA
      go_wp2_with fail
      go_quiet (fail)
      go_wp2_with fail
      go_ret
      exact HP.out _
    · have IN := Lib.hid (fun q => HINS.out (j + 1) ((j : Int) + 1) (w2.drewN q) w2.heap.size (by simp) (by omega) (below_drewN hB12 _) hR (fun u2 _ hu2 => by rw [show j + 1 - 1 = j by omega, hu] at hu2; obtain rfl := Option.some.inj hu2; exact he))
      simp only [decide_eq_false he] at heq
      clear HINS HPUT HAT hR HFZ HFORM hu he hA
      go_wp2_with fail
      go_quiet (fail)
      go_wp2_with fail
      refine (IN.out _).mono ?_
      rintro e w5 ⟨A', c', rfl, hO5, hB5, hG5⟩
      have HO5 := Lib.hid hO5
      clear hO5 IN
      go_wp2_with fail
      go_ret
      exact ⟨A', c', rfl, HO5.out, hB5, hG5⟩
theorem keep_list {x : CellL} {b : Bool} (h : (x.locked || !x.vers.isEmpty) = b) : (keepF x).toList = if b then [x] else [] := by
  unfold keepF
  rw [h]
  cases b <;> rfl
/-- What keep ends in. -/
def RetKeep (w : World) (base vb : Nat) (A : Option Addr) (n c : Nat) (rs : List CellL) (e : Ending) (w' : World) : Prop :=
  ∃ A' c', e = .returned (.slice A' rs.length c') ∧ OwnCs2 w' base vb (.slice A' rs.length c') rs ∧ Below base w w' ∧ w.grownBy w' (Value.ownBlock (.slice A n c))
set_option maxRecDepth 100000 in
set_option maxHeartbeats 4000000 in
theorem keep_any (A : Option Addr) (n c : Nat) (cs : List CellL) (x : CellL) (As : Option Addr) (cv : Nat) (w : World) (base vb : Nat) (hO : OwnCs2 w base vb (.slice A n c) cs) (hn : cs.length = n) (hV : VsIn w vb (.slice As x.vers.length cv) x.vers) (hb : n ≤ 1000) (hvb : vb ≤ base) (hbase : base ≤ w.heap.size) :
    Calls Try.prog 41 #[.slice A n c, .agg #[.string x.key, .slice As x.vers.length cv, .bool x.locked, .int .i64 x.lock.by_.node, .int .i64 x.lock.by_.life, .int .i64 x.lock.by_.seq, .int .i64 x.lock.by_.att, .int .i64 x.lock.home, .int .i64 x.lock.at_.wall, .int .i64 x.lock.at_.tie, .bool x.lock.drop, .string x.lock.data]] w (RetKeep w base vb A n c (cs ++ (keepF x).toList)) := by
  have hB0 : Hid (Below w.heap.size w (w.alloc (.cells #[.string x.key, .slice As x.vers.length cv, .bool x.locked, .int .i64 x.lock.by_.node, .int .i64 x.lock.by_.life, .int .i64 x.lock.by_.seq, .int .i64 x.lock.by_.att, .int .i64 x.lock.home, .int .i64 x.lock.at_.wall, .int .i64 x.lock.at_.tie, .bool x.lock.drop, .string x.lock.data] 45))) := (Below.refl _ _).alloc (Nat.le_refl _) _
  have k0 : Hid (Blk 45 (w.alloc (.cells #[.string x.key, .slice As x.vers.length cv, .bool x.locked, .int .i64 x.lock.by_.node, .int .i64 x.lock.by_.life, .int .i64 x.lock.by_.seq, .int .i64 x.lock.by_.att, .int .i64 x.lock.home, .int .i64 x.lock.at_.wall, .int .i64 x.lock.at_.tie, .bool x.lock.drop, .string x.lock.data] 45)) w.heap.size [.string x.key, .slice As x.vers.length cv, .bool x.locked, .int .i64 x.lock.by_.node, .int .i64 x.lock.by_.life, .int .i64 x.lock.by_.seq, .int .i64 x.lock.by_.att, .int .i64 x.lock.home, .int .i64 x.lock.at_.wall, .int .i64 x.lock.at_.tie, .bool x.lock.drop, .string x.lock.data]) := heap_alloc_new w _
  have HO := Lib.hid (fun (wq : World) (h : Below w.heap.size w wq) => (show OwnCs2 wq base vb (.slice A n c) cs ∧ VsIn wq vb (.slice As x.vers.length cv) x.vers from ⟨hO.below hvb h, hV.below h⟩))
  have HL := Lib.hid (fun b => keep_list (x := x) (b := b))
  have hvl := hV.len
  have HSAME : Hid (∀ wq, Below w.heap.size w wq → cs ++ (keepF x).toList = cs → RetKeep w base vb A n c (cs ++ (keepF x).toList) (.returned (.slice A n c)) wq) := fun wq hq e => by
    rw [e]
    exact ⟨A, c, by rw [hn], by rw [hn]; exact hO.below hvb hq, hq.mono hbase, grown_below hq⟩
  clear hO hV
  have HONE : Hid (∀ wq wz A' c', Below w.heap.size w wq → (keepF x).toList = [x] → OwnCs2 wz base vb (.slice A' (n + 1) c') (cs ++ [x]) → Below base wq wz → wq.grownBy wz (Value.ownBlock (.slice A n c)) → RetKeep w base vb A n c (cs ++ (keepF x).toList) (.returned (.slice A' (n + 1) c')) wz) := fun wq wz A' c' hq e hz hbz hgz => by
    have hl : (cs ++ [x]).length = n + 1 := by rw [List.length_append, hn]; rfl
    rw [e]
    exact ⟨A', c', by rw [hl], by rw [hl]; exact hz, (hq.mono hbase).trans hbz, grown_trans (grown_below hq) hgz⟩
  by_cases hk : x.locked = false ∧ x.vers.length = 0
  · have hx : Hid ((keepF x).toList = []) := by
      rw [HL.out false (by rw [hk.1, List.length_eq_zero_iff.1 hk.2]; rfl)]
      exact Lib.hid rfl
    have HS := Lib.hid (fun wq (hq : Below w.heap.size w wq) => HSAME.out wq hq (by rw [hx.out, List.append_nil]))
    obtain ⟨hk1, hk2⟩ := hk
    rw [hk1, hk2] at hB0 k0 ⊢
    clear HSAME HONE HL hx HO
    go_enter Try.func41, Try.ntmps41
    go_upto_region 1 with (fail)
    have hs1 := k0.out.lt
    obtain ⟨e0, e1, e2, e3, e4, e5, e6, e7, e8, e9, e10, e11⟩ := blk12 k0.out
    generalize (w.alloc (.cells #[.string x.key, .slice As 0 cv, .bool false, .int .i64 x.lock.by_.node, .int .i64 x.lock.by_.life, .int .i64 x.lock.by_.seq, .int .i64 x.lock.by_.att, .int .i64 x.lock.home, .int .i64 x.lock.at_.wall, .int .i64 x.lock.at_.tie, .bool x.lock.drop, .string x.lock.data] 45)) = w1 at *
    go_wp2_with fail
    go_ret
    exact HS.out _ hB0.out
  · have hx : Hid ((keepF x).toList = [x]) := by
      rw [HL.out true (by
        rcases hl : x.locked with _ | _
        · cases hv : x.vers with
          | nil => exact absurd ⟨hl, by rw [hv]; rfl⟩ hk
          | cons _ _ => rfl
        · rfl)]
      exact Lib.hid rfl
    have H1 := Lib.hid (fun wq wz A' c' (hq : Below w.heap.size w wq) => HONE.out wq wz A' c' hq hx.out)
    clear HSAME HONE HL hx
    have hcond : x.locked = true ∨ (x.locked = false ∧ ((x.vers.length : Int) == 0) = false) := by
      rcases hl : x.locked with _ | _
      · exact .inr ⟨rfl, by simpa using fun h => hk ⟨hl, h⟩⟩
      · exact .inl rfl
    clear hk
    go_enter Try.func41, Try.ntmps41
    go_upto_region 1 with (fail)
    have hs1 := k0.out.lt
    obtain ⟨e0, e1, e2, e3, e4, e5, e6, e7, e8, e9, e10, e11⟩ := blk12 k0.out
    generalize (w.alloc (.cells #[.string x.key, .slice As x.vers.length cv, .bool x.locked, .int .i64 x.lock.by_.node, .int .i64 x.lock.by_.life, .int .i64 x.lock.by_.seq, .int .i64 x.lock.by_.att, .int .i64 x.lock.home, .int .i64 x.lock.at_.wall, .int .i64 x.lock.at_.tie, .bool x.lock.drop, .string x.lock.data] 45)) = w1 at *
    have hB1 := hB0.out
    have hBx := hB1.alloc hB1.size (.cells #[.string x.key, .slice As x.vers.length cv, .bool x.locked, .int .i64 x.lock.by_.node, .int .i64 x.lock.by_.life, .int .i64 x.lock.by_.seq, .int .i64 x.lock.by_.att, .int .i64 x.lock.home, .int .i64 x.lock.at_.wall, .int .i64 x.lock.at_.tie, .bool x.lock.drop, .string x.lock.data] 45)
    have hAn : At (w1.alloc (.cells #[.string x.key, .slice As x.vers.length cv, .bool x.locked, .int .i64 x.lock.by_.node, .int .i64 x.lock.by_.life, .int .i64 x.lock.by_.seq, .int .i64 x.lock.by_.att, .int .i64 x.lock.home, .int .i64 x.lock.at_.wall, .int .i64 x.lock.at_.tie, .bool x.lock.drop, .string x.lock.data] 45)) w1.heap.size 0 (cellC x (.slice As x.vers.length cv)) := at_new w1 45 _
    obtain ⟨hOx, hVx⟩ := HO.out _ hBx
    have hbx : base ≤ (w1.alloc (.cells #[.string x.key, .slice As x.vers.length cv, .bool x.locked, .int .i64 x.lock.by_.node, .int .i64 x.lock.by_.life, .int .i64 x.lock.by_.seq, .int .i64 x.lock.by_.att, .int .i64 x.lock.home, .int .i64 x.lock.at_.wall, .int .i64 x.lock.at_.tie, .bool x.lock.drop, .string x.lock.data] 45)).heap.size := by have := hBx.size; omega
    rcases hcond with hl | ⟨hl, hv0⟩
    all_goals
      simp only [hl] at e2 hAn hBx hOx hVx hbx
    · go_wp2_with (at_builtin; with_reducible refine wpList_append_cell2 rfl (.tmp 15) (.tmp 17) rfl base vb A n c cs hn rfl hOx (w1.heap.size + 1) w1.heap.size 0 1 x (.slice As x.vers.length cv) rfl (Nat.lt_succ_self _) hAn hVx ?hb1 hbx ?_)
      case hb1 => omega
      intro A' c' w5 hO5 hB5 hG5
      have HF := Lib.hid (H1.out _ w5 A' c' hBx hO5 hB5 hG5)
      clear hO5 hB5 hG5 hOx hVx hAn H1
      go_wp2_with fail
      go_ret
      exact HF.out
    · go_wp2_with (at_builtin; with_reducible refine wpList_append_cell2 rfl (.tmp 15) (.tmp 17) rfl base vb A n c cs hn rfl hOx (w1.heap.size + 1) w1.heap.size 0 1 x (.slice As x.vers.length cv) rfl (Nat.lt_succ_self _) hAn hVx ?hb2 hbx ?_)
      case hb2 => omega
      intro A' c' w5 hO5 hB5 hG5
      have HF := Lib.hid (H1.out _ w5 A' c' hBx hO5 hB5 hG5)
      clear hO5 hB5 hG5 hOx hVx hAn H1
      go_wp2_with fail
      go_ret
      exact HF.out
end Go.Proofs.Ytlkhmpfdajefiaa.mvi
