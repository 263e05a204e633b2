/- The statements' own told (stage 8). Conditions: few cells, few versions, cells that may be. -/
import Derived.Test.YtlkhmpfdajefiaaScans8
import Derived.Test.YtlkhmpfdajefiaaRef8d
import Derived.Test.YtlkhmpfdajefiaaJoin1
namespace Go.Proofs.Ytlkhmpfdajefiaa.law8
open Go Go.RowKit Go.Proofs.Ytlkhmpfdajefiaa.kit Go.Proofs.Ytlkhmpfdajefiaa.nums Go.Proofs.Ytlkhmpfdajefiaa.st Go.Proofs.Ytlkhmpfdajefiaa.mv Go.Proofs.Ytlkhmpfdajefiaa.ref8
set_option linter.unusedVariables false

theorem ne_lk_self (a : LockL) (w : World) : (binOp BinOp.neq 38 (.agg #[.int .i64 a.by_.node, .int .i64 a.by_.life, .int .i64 a.by_.seq, .int .i64 a.by_.att, .int .i64 a.home, .int .i64 a.at_.wall, .int .i64 a.at_.tie, .bool a.drop, .string a.data]) (.agg #[.int .i64 a.by_.node, .int .i64 a.by_.life, .int .i64 a.by_.seq, .int .i64 a.by_.att, .int .i64 a.home, .int .i64 a.at_.wall, .int .i64 a.at_.tie, .bool a.drop, .string a.data])).run Try.prog w = .ok (.bool false) w := by
  obtain ⟨⟨p, q, r, s⟩, t, ⟨u, v⟩, x, y⟩ := a
  go_simp
theorem ps_set {w : World} {base g n c k : Nat} {ps : List (ByteArray × ByteArray)} {p : ByteArray × ByteArray} (h : OwnPs w base (.slice (some ⟨g, 0, none⟩) n c) ps) (hn : ps.length = n) (hp : ps[k]? = some p) (x y : ByteArray) :
    OwnPs ((w.setCell ⟨g, k * 2, none⟩ (.string x)).setCell ⟨g, k * 2 + 1, none⟩ (.string y)) base (.slice (some ⟨g, 0, none⟩) n c) (ps.set k (x, y)) := by
  have hk := (List.getElem?_eq_some_iff.1 hp).1
  unfold OwnPs at h ⊢
  rw [hn] at h
  rw [List.length_set, hn]
  have e1 := row_set prC 2 pr_len ps k 0 p (x, p.2) (.string x) hp (by omega) rfl
  have e2 := row_set prC 2 pr_len (ps.set k (x, p.2)) k 1 (x, p.2) (x, y) (.string y) (by rw [List.getElem?_set, if_pos rfl, if_pos hk]) (by omega) rfl
  rw [List.set_set] at e2
  rw [← e2, ← e1]
  exact ((h.stored (k * 2) _).1.stored (k * 2 + 1) _).1
theorem ps_cells {w : World} {base g n c j : Nat} {ps : List (ByteArray × ByteArray)} {p : ByteArray × ByteArray} (h : OwnPs w base (.slice (some ⟨g, 0, none⟩) n c) ps) (hn : ps.length = n) (hp : ps[j]? = some p) : At w g (j * 2) (prC p) := fun i u hu => by
  have hj := (List.getElem?_eq_some_iff.1 hp).1
  unfold OwnPs at h
  rw [hn] at h
  have hi : i < 2 := by have := (List.getElem?_eq_some_iff.1 hu).1; rw [pr_len] at this; exact this
  rw [h.cellAt (j * 2 + i) (by omega), flat_get prC 2 pr_len ps j i _ hp hi]
  exact hu
theorem ps_frozen {w : World} {base g n c : Nat} {ps : List (ByteArray × ByteArray)} (h : OwnPs w base (.slice (some ⟨g, 0, none⟩) n c) ps) (hn : ps.length = n) (j : Nat) : w.frozen? ⟨g, j, none⟩ = false := by
  unfold OwnPs at h
  rw [hn] at h
  exact h.frozenAt j
theorem ps_keep {w w' : World} {base g n c : Nat} {ps : List (ByteArray × ByteArray)} (h : OwnPs w base (.slice (some ⟨g, 0, none⟩) n c) ps) (hk : w'.heap[g]? = w.heap[g]?) : OwnPs w' base (.slice (some ⟨g, 0, none⟩) n c) ps := by
  refine ⟨h.1, ?_⟩
  rcases h.2 with hn | ⟨g', cap, cur, e, hbg, hg, r⟩
  · exact .inl hn
  · have e' := e
    simp only [Value.slice.injEq, Option.some.injEq, Addr.mk.injEq] at e'
    exact .inr ⟨g', cap, cur, e, hbg, by rw [← e'.1.1, hk, e'.1.1]; exact hg, r⟩
theorem lk_ret (r : Option LockL) (h : LockL) (hh : r.getD zeroL = h) : lkV r = .tuple #[.agg #[.int .i64 h.by_.node, .int .i64 h.by_.life, .int .i64 h.by_.seq, .int .i64 h.by_.att, .int .i64 h.home, .int .i64 h.at_.wall, .int .i64 h.at_.tie, .bool h.drop, .string h.data], .bool r.isSome] := by
  unfold lkV lockC
  rw [hh]
set_option maxRecDepth 100000 in
set_option maxHeartbeats 4000000 in
theorem told_any (A : Option Addr) (n c : Nat) (cs : List CellL) (kk : ByteArray) (ta : StL) (lo hi : ByteArray) (by_ : TrL) (most : Int) (w : World) (B : Nat) (hR : RdC w B A n cs) (hB : B ≤ w.heap.size) (hf : Few cs) (hok : okC cs) (hnc : n ≤ c) :
    Calls Try.prog 16 #[.slice A n c, .string kk, .agg #[.int .i64 ta.wall, .int .i64 ta.tie], .agg #[.string lo, .string hi], .agg #[.int .i64 by_.node, .int .i64 by_.life, .int .i64 by_.seq, .int .i64 by_.att], .int .i64 most] w fun e w' => e = .returned (.bool true) ∧ Below w.heap.size w w' := by
  obtain rfl : cs.length = n := hR.1
  have hn1 := hf.1
  have HB := Lib.hid (fun (wq : World) (h : Below w.heap.size w wq) => (show RdC wq B A cs.length cs ∧ B ≤ wq.heap.size from ⟨hR.below (h.mono hB), by have := h.size; omega⟩))
  have hv : ∀ x ∈ cs, x.vers.length ≤ 1099511627776 := fun x hx => by have := hf.2 x hx; omega
  obtain ⟨r1, hr1⟩ : ∃ r, blocksF cs lo hi ta = r := ⟨_, rfl⟩
  obtain ⟨r2, hr2⟩ : ∃ r, heldF cs kk = r := ⟨_, rfl⟩
  obtain ⟨h1, hh1⟩ : ∃ h, r1.getD zeroL = h := ⟨_, rfl⟩
  obtain ⟨h2, hh2⟩ : ∃ h, r2.getD zeroL = h := ⟨_, rfl⟩
  obtain ⟨i1, hi1⟩ : ∃ i, r1.isSome = i := ⟨_, rfl⟩
  obtain ⟨i2, hi2⟩ : ∃ i, r2.isSome = i := ⟨_, rfl⟩
  obtain ⟨g, hg⟩ : ∃ g, (getF cs kk ta).getD noText = g := ⟨_, rfl⟩
  obtain ⟨i3, hi3⟩ : ∃ i, (getF cs kk ta).isSome = i := ⟨_, rfl⟩
  obtain ⟨mi, hmi⟩ : ∃ i, mineF cs by_ = i := ⟨_, rfl⟩
  obtain ⟨ps, hps⟩ : ∃ ps, scanF cs lo hi ta = ps := ⟨_, rfl⟩
  have hpl : ps.length ≤ 1000 := by rw [← hps]; exact Nat.le_trans (List.length_filterMap_le _ _) hn1
  have e1 : lkV (blocksF cs lo hi ta) = .tuple #[.agg #[.int .i64 h1.by_.node, .int .i64 h1.by_.life, .int .i64 h1.by_.seq, .int .i64 h1.by_.att, .int .i64 h1.home, .int .i64 h1.at_.wall, .int .i64 h1.at_.tie, .bool h1.drop, .string h1.data], .bool i1] := by rw [hr1, lk_ret r1 h1 hh1, hi1]
  have e2 : lkV (heldF cs kk) = .tuple #[.agg #[.int .i64 h2.by_.node, .int .i64 h2.by_.life, .int .i64 h2.by_.seq, .int .i64 h2.by_.att, .int .i64 h2.home, .int .i64 h2.at_.wall, .int .i64 h2.at_.tie, .bool h2.drop, .string h2.data], .bool i2] := by rw [hr2, lk_ret r2 h2 hh2, hi2]
  have e3 : ofV (getF cs kk ta) = .tuple #[.string g, .bool i3] := by unfold ofV; rw [hg, hi3]
  have G1 := Lib.hid (fun (wq : World) (h : Below w.heap.size w wq) => (show Calls Try.prog 26 #[.slice A cs.length c, .string kk, .agg #[.int .i64 ta.wall, .int .i64 ta.tie]] wq (fun e w' => e = .returned (.tuple #[.string g, .bool i3]) ∧ Below wq.heap.size wq w') from by
    have := mvi.get_any A cs.length c cs kk ta wq B (HB.out wq h).1 (HB.out wq h).2 hf hok
    rw [e3] at this
    exact this))
  have G2 := Lib.hid (fun (wq : World) (h : Below w.heap.size w wq) => (show Calls Try.prog 32 #[.slice A cs.length c, .string kk, .agg #[.int .i64 ta.wall, .int .i64 ta.tie]] wq (fun e w' => e = .returned (.tuple #[.string g, .bool i3]) ∧ Below wq.heap.size wq w') from by
    have := ref8.get_any A cs.length c cs kk ta wq B (HB.out wq h).1 (HB.out wq h).2 (by omega) hv
    rw [e3] at this
    exact this))
  have L1 := Lib.hid (fun (wq : World) (h : Below w.heap.size w wq) => (show Calls Try.prog 33 #[.slice A cs.length c, .agg #[.string lo, .string hi], .agg #[.int .i64 ta.wall, .int .i64 ta.tie]] wq (fun e w' => e = .returned (.tuple #[.agg #[.int .i64 h1.by_.node, .int .i64 h1.by_.life, .int .i64 h1.by_.seq, .int .i64 h1.by_.att, .int .i64 h1.home, .int .i64 h1.at_.wall, .int .i64 h1.at_.tie, .bool h1.drop, .string h1.data], .bool i1]) ∧ Below wq.heap.size wq w') from by
    have := mvi.blocks_any A cs.length c cs lo hi ta wq B (HB.out wq h).1 (HB.out wq h).2 hf hok hnc
    rw [e1] at this
    exact this))
  have L2 := Lib.hid (fun (wq : World) (h : Below w.heap.size w wq) => (show Calls Try.prog 34 #[.slice A cs.length c, .agg #[.string lo, .string hi], .agg #[.int .i64 ta.wall, .int .i64 ta.tie]] wq (fun e w' => e = .returned (.tuple #[.agg #[.int .i64 h1.by_.node, .int .i64 h1.by_.life, .int .i64 h1.by_.seq, .int .i64 h1.by_.att, .int .i64 h1.home, .int .i64 h1.at_.wall, .int .i64 h1.at_.tie, .bool h1.drop, .string h1.data], .bool i1]) ∧ Below wq.heap.size wq w') from by
    have := ref8.blocks_any A cs.length c cs lo hi ta wq B (HB.out wq h).1 (HB.out wq h).2 (by omega)
    rw [e1] at this
    exact this))
  have H1 := Lib.hid (fun (wq : World) (h : Below w.heap.size w wq) => (show Calls Try.prog 27 #[.slice A cs.length c, .string kk] wq (fun e w' => e = .returned (.tuple #[.agg #[.int .i64 h2.by_.node, .int .i64 h2.by_.life, .int .i64 h2.by_.seq, .int .i64 h2.by_.att, .int .i64 h2.home, .int .i64 h2.at_.wall, .int .i64 h2.at_.tie, .bool h2.drop, .string h2.data], .bool i2]) ∧ Below wq.heap.size wq w') from by
    have := mvi.held_any A cs.length c cs kk wq B (HB.out wq h).1 (HB.out wq h).2 hf hok
    rw [e2] at this
    exact this))
  have H2 := Lib.hid (fun (wq : World) (h : Below w.heap.size w wq) => (show Calls Try.prog 36 #[.slice A cs.length c, .string kk] wq (fun e w' => e = .returned (.tuple #[.agg #[.int .i64 h2.by_.node, .int .i64 h2.by_.life, .int .i64 h2.by_.seq, .int .i64 h2.by_.att, .int .i64 h2.home, .int .i64 h2.at_.wall, .int .i64 h2.at_.tie, .bool h2.drop, .string h2.data], .bool i2]) ∧ Below wq.heap.size wq w') from by
    have := ref8.held_any A cs.length c cs kk wq B (HB.out wq h).1 (HB.out wq h).2 (by omega)
    rw [e2] at this
    exact this))
  have M1 := Lib.hid (fun (wq : World) (h : Below w.heap.size w wq) => (show Calls Try.prog 23 #[.slice A cs.length c, .agg #[.int .i64 by_.node, .int .i64 by_.life, .int .i64 by_.seq, .int .i64 by_.att]] wq (fun e w' => e = .returned (.bool mi) ∧ Below wq.heap.size wq w') from by
    have := mvi.mine_any A cs.length c cs by_ wq B (HB.out wq h).1 (HB.out wq h).2 hf hok
    rw [hmi] at this
    exact this))
  have M2 := Lib.hid (fun (wq : World) (h : Below w.heap.size w wq) => (show Calls Try.prog 37 #[.slice A cs.length c, .agg #[.int .i64 by_.node, .int .i64 by_.life, .int .i64 by_.seq, .int .i64 by_.att]] wq (fun e w' => e = .returned (.bool mi) ∧ Below wq.heap.size wq w') from by
    have := ref8.mine_any A cs.length c cs by_ wq B (HB.out wq h).1 (HB.out wq h).2 (by omega)
    rw [hmi] at this
    exact this))
  have S1 := Lib.hid (fun (wq : World) (h : Below w.heap.size w wq) => (show Calls Try.prog 22 #[.slice A cs.length c, .agg #[.string lo, .string hi], .agg #[.int .i64 ta.wall, .int .i64 ta.tie], .int .i64 most] wq (RetPs wq ps most) from by
    have := mvi.scan_any A cs.length c cs lo hi ta most wq B (HB.out wq h).1 (HB.out wq h).2 hf hok hnc
    rw [hps] at this
    exact this))
  have S2 := Lib.hid (fun (wq : World) (h : Below w.heap.size w wq) => (show Calls Try.prog 35 #[.slice A cs.length c, .agg #[.string lo, .string hi], .agg #[.int .i64 ta.wall, .int .i64 ta.tie], .int .i64 most] wq (RetPs wq ps most) from by
    have := ref8.scan_any A cs.length c cs lo hi ta most wq B (HB.out wq h).1 (HB.out wq h).2 hf
    rw [hps] at this
    exact this))
  have Y1 := Lib.hid (fun (wq : World) (h : Below w.heap.size w wq) => (show Calls Try.prog 19 #[.slice A cs.length c] wq (fun e w' => e = .returned (.bool true) ∧ Below wq.heap.size wq w') from by
    have := mvi.may_any A cs.length c cs  wq B (HB.out wq h).1 (HB.out wq h).2 hf
    refine this.mono ?_
    rintro e w' ⟨bb, rfl, hbb, hb⟩
    obtain rfl : bb = true := hbb.2 hok
    exact ⟨rfl, hb⟩))
  have Y2 := Lib.hid (fun (wq : World) (h : Below w.heap.size w wq) => (show Calls Try.prog 18 #[.slice A cs.length c] wq (fun e w' => e = .returned (.bool true) ∧ Below wq.heap.size wq w') from by
    have := ref8.may_any A cs.length c cs wq B (HB.out wq h).1 (HB.out wq h).2 (by omega) hv
    refine this.mono ?_
    rintro e w' ⟨bb, rfl, hbb, hb⟩
    obtain rfl : bb = true := hbb.2 hok
    exact ⟨rfl, hb⟩))
  have hNL := fun a w => ne_lk_self a w
  have hNP := fun p w => ne_pr_self p w
  have hB0 : Hid (Below w.heap.size w (((w.alloc (.cells #[.int .i64 ta.wall, .int .i64 ta.tie] 24)).alloc (.cells #[.string lo, .string hi] 26)).alloc (.cells #[.int .i64 by_.node, .int .i64 by_.life, .int .i64 by_.seq, .int .i64 by_.att] 28))) := (((Below.refl _ _).alloc (Nat.le_refl _) _).alloc (by simp) _).alloc (by simp; omega) _
  have k0 : Blk 24 (((w.alloc (.cells #[.int .i64 ta.wall, .int .i64 ta.tie] 24)).alloc (.cells #[.string lo, .string hi] 26)).alloc (.cells #[.int .i64 by_.node, .int .i64 by_.life, .int .i64 by_.seq, .int .i64 by_.att] 28)) w.heap.size [.int .i64 ta.wall, .int .i64 ta.tie] := Blk.alloc (Blk.alloc (heap_alloc_new w _) _) _
  have k1 : Blk 26 (((w.alloc (.cells #[.int .i64 ta.wall, .int .i64 ta.tie] 24)).alloc (.cells #[.string lo, .string hi] 26)).alloc (.cells #[.int .i64 by_.node, .int .i64 by_.life, .int .i64 by_.seq, .int .i64 by_.att] 28)) (w.heap.size + 1) [.string lo, .string hi] := by
    have := Blk.alloc (E := 26) (cs := [.string lo, .string hi]) (heap_alloc_new (w.alloc (.cells #[.int .i64 ta.wall, .int .i64 ta.tie] 24)) _) (.cells #[.int .i64 by_.node, .int .i64 by_.life, .int .i64 by_.seq, .int .i64 by_.att] 28)
    simpa using this
  have k2 : Blk 28 (((w.alloc (.cells #[.int .i64 ta.wall, .int .i64 ta.tie] 24)).alloc (.cells #[.string lo, .string hi] 26)).alloc (.cells #[.int .i64 by_.node, .int .i64 by_.life, .int .i64 by_.seq, .int .i64 by_.att] 28)) (w.heap.size + 2) [.int .i64 by_.node, .int .i64 by_.life, .int .i64 by_.seq, .int .i64 by_.att] := by
    have := heap_alloc_new ((w.alloc (.cells #[.int .i64 ta.wall, .int .i64 ta.tie] 24)).alloc (.cells #[.string lo, .string hi] 26)) (.cells #[.int .i64 by_.node, .int .i64 by_.life, .int .i64 by_.seq, .int .i64 by_.att] 28)
    simpa [Blk] using this
  have HS : Hid (∀ wq, Below (((w.alloc (.cells #[.int .i64 ta.wall, .int .i64 ta.tie] 24)).alloc (.cells #[.string lo, .string hi] 26)).alloc (.cells #[.int .i64 by_.node, .int .i64 by_.life, .int .i64 by_.seq, .int .i64 by_.att] 28)).heap.size (((w.alloc (.cells #[.int .i64 ta.wall, .int .i64 ta.tie] 24)).alloc (.cells #[.string lo, .string hi] 26)).alloc (.cells #[.int .i64 by_.node, .int .i64 by_.life, .int .i64 by_.seq, .int .i64 by_.att] 28)) wq → wq.cell? ⟨w.heap.size, 0, none⟩ = some (.int .i64 ta.wall) ∧ wq.cell? ⟨w.heap.size, 1, none⟩ = some (.int .i64 ta.tie) ∧ wq.cell? ⟨w.heap.size + 1, 0, none⟩ = some (.string lo) ∧ wq.cell? ⟨w.heap.size + 1, 1, none⟩ = some (.string hi) ∧ wq.cell? ⟨w.heap.size + 2, 0, none⟩ = some (.int .i64 by_.node) ∧ wq.cell? ⟨w.heap.size + 2, 1, none⟩ = some (.int .i64 by_.life) ∧ wq.cell? ⟨w.heap.size + 2, 2, none⟩ = some (.int .i64 by_.seq) ∧ wq.cell? ⟨w.heap.size + 2, 3, none⟩ = some (.int .i64 by_.att)) := fun wq hq => by
    have h0 := k0.below hq k0.lt
    have h1 := k1.below hq k1.lt
    have h2 := k2.below hq k2.lt
    exact ⟨h0.cell 0, h0.cell 1, h1.cell 0, h1.cell 1, h2.cell 0, h2.cell 1, h2.cell 2, h2.cell 3⟩
  clear k0 k1 k2 hR HB hv e1 e2 e3 hr1 hr2 hh1 hh2 hi1 hi2 hi3 hg hmi hps hf hok
  go_enter Try.func16, Try.ntmps16
  go_upto_region 1 with (fail)
  (try rw [show w.heap.size + 1 + 1 = w.heap.size + 2 by omega])
  generalize (((w.alloc (.cells #[.int .i64 ta.wall, .int .i64 ta.tie] 24)).alloc (.cells #[.string lo, .string hi] 26)).alloc (.cells #[.int .i64 by_.node, .int .i64 by_.life, .int .i64 by_.seq, .int .i64 by_.att] 28)) = w1 at *
  have q0 : Below w1.heap.size w1 w1 := Below.refl _ _
  have B0 := fun wq (h : Below w1.heap.size w1 wq) => hB0.out.trans (h.mono hB0.out.size)
  have B0 := Lib.hid B0
  obtain ⟨s0, s1, s2, s3, s4, s5, s6, s7⟩ := HS.out _ q0
  go_wp2_with fail
  refine (G1.out _ (B0.out _ q0)).mono ?_
  rintro e y1 ⟨rfl, hY1⟩
  have q1 := q0.trans (hY1.mono q0.size)
  clear s0 s1 s2 s3 s4 s5 s6 s7
  obtain ⟨s0, s1, s2, s3, s4, s5, s6, s7⟩ := HS.out _ q1
  go_wp2_with fail
  refine (G2.out _ (B0.out _ q1)).mono ?_
  rintro e y2 ⟨rfl, hY2⟩
  have q2 := q1.trans (hY2.mono q1.size)
  clear s0 s1 s2 s3 s4 s5 s6 s7
  obtain ⟨s0, s1, s2, s3, s4, s5, s6, s7⟩ := HS.out _ q2
  go_wp2_with fail
  refine (L1.out _ (B0.out _ q2)).mono ?_
  rintro e y3 ⟨rfl, hY3⟩
  have q3 := q2.trans (hY3.mono q2.size)
  clear s0 s1 s2 s3 s4 s5 s6 s7
  have kb1 : Blk 38 (y3.alloc (.cells #[.int .i64 h1.by_.node, .int .i64 h1.by_.life, .int .i64 h1.by_.seq, .int .i64 h1.by_.att, .int .i64 h1.home, .int .i64 h1.at_.wall, .int .i64 h1.at_.tie, .bool h1.drop, .string h1.data] 38)) y3.heap.size [.int .i64 h1.by_.node, .int .i64 h1.by_.life, .int .i64 h1.by_.seq, .int .i64 h1.by_.att, .int .i64 h1.home, .int .i64 h1.at_.wall, .int .i64 h1.at_.tie, .bool h1.drop, .string h1.data] := heap_alloc_new y3 _
  have q4 := q3.alloc q3.size (.cells #[.int .i64 h1.by_.node, .int .i64 h1.by_.life, .int .i64 h1.by_.seq, .int .i64 h1.by_.att, .int .i64 h1.home, .int .i64 h1.at_.wall, .int .i64 h1.at_.tie, .bool h1.drop, .string h1.data] 38)
  have hY4 : Below y3.heap.size y3 (y3.alloc (.cells #[.int .i64 h1.by_.node, .int .i64 h1.by_.life, .int .i64 h1.by_.seq, .int .i64 h1.by_.att, .int .i64 h1.home, .int .i64 h1.at_.wall, .int .i64 h1.at_.tie, .bool h1.drop, .string h1.data] 38)) := (Below.refl _ _).alloc (Nat.le_refl _) (.cells #[.int .i64 h1.by_.node, .int .i64 h1.by_.life, .int .i64 h1.by_.seq, .int .i64 h1.by_.att, .int .i64 h1.home, .int .i64 h1.at_.wall, .int .i64 h1.at_.tie, .bool h1.drop, .string h1.data] 38)
  have hlb1 := q3.size
  go_upto_region 4 with (fail)
  obtain ⟨b1, hb1⟩ : ∃ b, y3.heap.size = b := ⟨_, rfl⟩
  rw [hb1] at kb1 ⊢
  generalize (y3.alloc (.cells #[.int .i64 h1.by_.node, .int .i64 h1.by_.life, .int .i64 h1.by_.seq, .int .i64 h1.by_.att, .int .i64 h1.home, .int .i64 h1.at_.wall, .int .i64 h1.at_.tie, .bool h1.drop, .string h1.data] 38)) = y4 at *
  obtain ⟨s0, s1, s2, s3, s4, s5, s6, s7⟩ := HS.out _ q4
  go_wp2_with fail
  refine (L2.out _ (B0.out _ q4)).mono ?_
  rintro e y5 ⟨rfl, hY5⟩
  have q5 := q4.trans (hY5.mono q4.size)
  clear s0 s1 s2 s3 s4 s5 s6 s7
  have kb2 : Blk 38 (y5.alloc (.cells #[.int .i64 h1.by_.node, .int .i64 h1.by_.life, .int .i64 h1.by_.seq, .int .i64 h1.by_.att, .int .i64 h1.home, .int .i64 h1.at_.wall, .int .i64 h1.at_.tie, .bool h1.drop, .string h1.data] 38)) y5.heap.size [.int .i64 h1.by_.node, .int .i64 h1.by_.life, .int .i64 h1.by_.seq, .int .i64 h1.by_.att, .int .i64 h1.home, .int .i64 h1.at_.wall, .int .i64 h1.at_.tie, .bool h1.drop, .string h1.data] := heap_alloc_new y5 _
  have q6 := q5.alloc q5.size (.cells #[.int .i64 h1.by_.node, .int .i64 h1.by_.life, .int .i64 h1.by_.seq, .int .i64 h1.by_.att, .int .i64 h1.home, .int .i64 h1.at_.wall, .int .i64 h1.at_.tie, .bool h1.drop, .string h1.data] 38)
  have hY6 : Below y5.heap.size y5 (y5.alloc (.cells #[.int .i64 h1.by_.node, .int .i64 h1.by_.life, .int .i64 h1.by_.seq, .int .i64 h1.by_.att, .int .i64 h1.home, .int .i64 h1.at_.wall, .int .i64 h1.at_.tie, .bool h1.drop, .string h1.data] 38)) := (Below.refl _ _).alloc (Nat.le_refl _) (.cells #[.int .i64 h1.by_.node, .int .i64 h1.by_.life, .int .i64 h1.by_.seq, .int .i64 h1.by_.att, .int .i64 h1.home, .int .i64 h1.at_.wall, .int .i64 h1.at_.tie, .bool h1.drop, .string h1.data] 38)
  have hlb2 := q5.size
  go_upto_region 5 with (fail)
  obtain ⟨b2, hb2⟩ : ∃ b, y5.heap.size = b := ⟨_, rfl⟩
  rw [hb2] at kb2 ⊢
  generalize (y5.alloc (.cells #[.int .i64 h1.by_.node, .int .i64 h1.by_.life, .int .i64 h1.by_.seq, .int .i64 h1.by_.att, .int .i64 h1.home, .int .i64 h1.at_.wall, .int .i64 h1.at_.tie, .bool h1.drop, .string h1.data] 38)) = y6 at *
  obtain ⟨s0, s1, s2, s3, s4, s5, s6, s7⟩ := HS.out _ q6
  go_wp2_with fail
  refine (S1.out _ (B0.out _ q6)).mono ?_
  rintro e y7 ⟨h5, hY7⟩
  have q7 := q6.trans (hY7.mono q6.size)
  clear s0 s1 s2 s3 s4 s5 s6 s7
  rcases h5 with ⟨hle, A5, c5, rfl, hP5⟩ | ⟨hno, rfl⟩
  · obtain ⟨s0, s1, s2, s3, s4, s5, s6, s7⟩ := HS.out _ q7
    go_wp2_with fail
    refine (S2.out _ (B0.out _ q7)).mono ?_
    rintro e y8 ⟨h6, hY8⟩
    have q8 := q7.trans (hY8.mono q7.size)
    clear s0 s1 s2 s3 s4 s5 s6 s7
    rcases h6.symm with ⟨hno, _⟩ | ⟨_, A6, c6, rfl, hP6⟩
    · omega
    obtain ⟨s0, s1, s2, s3, s4, s5, s6, s7⟩ := HS.out _ q8
    go_wp2_with fail
    refine (H1.out _ (B0.out _ q8)).mono ?_
    rintro e y9 ⟨rfl, hY9⟩
    have q9 := q8.trans (hY9.mono q8.size)
    clear s0 s1 s2 s3 s4 s5 s6 s7
    have kb3 : Blk 38 (y9.alloc (.cells #[.int .i64 h2.by_.node, .int .i64 h2.by_.life, .int .i64 h2.by_.seq, .int .i64 h2.by_.att, .int .i64 h2.home, .int .i64 h2.at_.wall, .int .i64 h2.at_.tie, .bool h2.drop, .string h2.data] 38)) y9.heap.size [.int .i64 h2.by_.node, .int .i64 h2.by_.life, .int .i64 h2.by_.seq, .int .i64 h2.by_.att, .int .i64 h2.home, .int .i64 h2.at_.wall, .int .i64 h2.at_.tie, .bool h2.drop, .string h2.data] := heap_alloc_new y9 _
    have q10 := q9.alloc q9.size (.cells #[.int .i64 h2.by_.node, .int .i64 h2.by_.life, .int .i64 h2.by_.seq, .int .i64 h2.by_.att, .int .i64 h2.home, .int .i64 h2.at_.wall, .int .i64 h2.at_.tie, .bool h2.drop, .string h2.data] 38)
    have hY10 : Below y9.heap.size y9 (y9.alloc (.cells #[.int .i64 h2.by_.node, .int .i64 h2.by_.life, .int .i64 h2.by_.seq, .int .i64 h2.by_.att, .int .i64 h2.home, .int .i64 h2.at_.wall, .int .i64 h2.at_.tie, .bool h2.drop, .string h2.data] 38)) := (Below.refl _ _).alloc (Nat.le_refl _) (.cells #[.int .i64 h2.by_.node, .int .i64 h2.by_.life, .int .i64 h2.by_.seq, .int .i64 h2.by_.att, .int .i64 h2.home, .int .i64 h2.at_.wall, .int .i64 h2.at_.tie, .bool h2.drop, .string h2.data] 38)
    have hlb3 := q9.size
    go_upto_region 8 with (fail)
    obtain ⟨b3, hb3⟩ : ∃ b, y9.heap.size = b := ⟨_, rfl⟩
    rw [hb3] at kb3 ⊢
    generalize (y9.alloc (.cells #[.int .i64 h2.by_.node, .int .i64 h2.by_.life, .int .i64 h2.by_.seq, .int .i64 h2.by_.att, .int .i64 h2.home, .int .i64 h2.at_.wall, .int .i64 h2.at_.tie, .bool h2.drop, .string h2.data] 38)) = y10 at *
    obtain ⟨s0, s1, s2, s3, s4, s5, s6, s7⟩ := HS.out _ q10
    go_wp2_with fail
    refine (H2.out _ (B0.out _ q10)).mono ?_
    rintro e y11 ⟨rfl, hY11⟩
    have q11 := q10.trans (hY11.mono q10.size)
    clear s0 s1 s2 s3 s4 s5 s6 s7
    have kb4 : Blk 38 (y11.alloc (.cells #[.int .i64 h2.by_.node, .int .i64 h2.by_.life, .int .i64 h2.by_.seq, .int .i64 h2.by_.att, .int .i64 h2.home, .int .i64 h2.at_.wall, .int .i64 h2.at_.tie, .bool h2.drop, .string h2.data] 38)) y11.heap.size [.int .i64 h2.by_.node, .int .i64 h2.by_.life, .int .i64 h2.by_.seq, .int .i64 h2.by_.att, .int .i64 h2.home, .int .i64 h2.at_.wall, .int .i64 h2.at_.tie, .bool h2.drop, .string h2.data] := heap_alloc_new y11 _
    have q12 := q11.alloc q11.size (.cells #[.int .i64 h2.by_.node, .int .i64 h2.by_.life, .int .i64 h2.by_.seq, .int .i64 h2.by_.att, .int .i64 h2.home, .int .i64 h2.at_.wall, .int .i64 h2.at_.tie, .bool h2.drop, .string h2.data] 38)
    have hY12 : Below y11.heap.size y11 (y11.alloc (.cells #[.int .i64 h2.by_.node, .int .i64 h2.by_.life, .int .i64 h2.by_.seq, .int .i64 h2.by_.att, .int .i64 h2.home, .int .i64 h2.at_.wall, .int .i64 h2.at_.tie, .bool h2.drop, .string h2.data] 38)) := (Below.refl _ _).alloc (Nat.le_refl _) (.cells #[.int .i64 h2.by_.node, .int .i64 h2.by_.life, .int .i64 h2.by_.seq, .int .i64 h2.by_.att, .int .i64 h2.home, .int .i64 h2.at_.wall, .int .i64 h2.at_.tie, .bool h2.drop, .string h2.data] 38)
    have hlb4 := q11.size
    go_upto_region 9 with (fail)
    obtain ⟨b4, hb4⟩ : ∃ b, y11.heap.size = b := ⟨_, rfl⟩
    rw [hb4] at kb4 ⊢
    generalize (y11.alloc (.cells #[.int .i64 h2.by_.node, .int .i64 h2.by_.life, .int .i64 h2.by_.seq, .int .i64 h2.by_.att, .int .i64 h2.home, .int .i64 h2.at_.wall, .int .i64 h2.at_.tie, .bool h2.drop, .string h2.data] 38)) = y12 at *
    have hNL1 := fun w => hNL h1 w
    have hNL2 := fun w => hNL h2 w
    have HS9 : Hid (∀ wq, Below y12.heap.size y12 wq → (wq.cell? ⟨w.heap.size, 0, none⟩ = some (.int .i64 ta.wall) ∧ wq.cell? ⟨w.heap.size, 1, none⟩ = some (.int .i64 ta.tie) ∧ wq.cell? ⟨w.heap.size + 1, 0, none⟩ = some (.string lo) ∧ wq.cell? ⟨w.heap.size + 1, 1, none⟩ = some (.string hi) ∧ wq.cell? ⟨w.heap.size + 2, 0, none⟩ = some (.int .i64 by_.node) ∧ wq.cell? ⟨w.heap.size + 2, 1, none⟩ = some (.int .i64 by_.life) ∧ wq.cell? ⟨w.heap.size + 2, 2, none⟩ = some (.int .i64 by_.seq) ∧ wq.cell? ⟨w.heap.size + 2, 3, none⟩ = some (.int .i64 by_.att)) ∧ (wq.cell? ⟨b1, 0, none⟩ = some (.int .i64 h1.by_.node) ∧ wq.cell? ⟨b1, 1, none⟩ = some (.int .i64 h1.by_.life) ∧ wq.cell? ⟨b1, 2, none⟩ = some (.int .i64 h1.by_.seq) ∧ wq.cell? ⟨b1, 3, none⟩ = some (.int .i64 h1.by_.att) ∧ wq.cell? ⟨b1, 4, none⟩ = some (.int .i64 h1.home) ∧ wq.cell? ⟨b1, 5, none⟩ = some (.int .i64 h1.at_.wall) ∧ wq.cell? ⟨b1, 6, none⟩ = some (.int .i64 h1.at_.tie) ∧ wq.cell? ⟨b1, 7, none⟩ = some (.bool h1.drop) ∧ wq.cell? ⟨b1, 8, none⟩ = some (.string h1.data)) ∧ (wq.cell? ⟨b2, 0, none⟩ = some (.int .i64 h1.by_.node) ∧ wq.cell? ⟨b2, 1, none⟩ = some (.int .i64 h1.by_.life) ∧ wq.cell? ⟨b2, 2, none⟩ = some (.int .i64 h1.by_.seq) ∧ wq.cell? ⟨b2, 3, none⟩ = some (.int .i64 h1.by_.att) ∧ wq.cell? ⟨b2, 4, none⟩ = some (.int .i64 h1.home) ∧ wq.cell? ⟨b2, 5, none⟩ = some (.int .i64 h1.at_.wall) ∧ wq.cell? ⟨b2, 6, none⟩ = some (.int .i64 h1.at_.tie) ∧ wq.cell? ⟨b2, 7, none⟩ = some (.bool h1.drop) ∧ wq.cell? ⟨b2, 8, none⟩ = some (.string h1.data)) ∧ (wq.cell? ⟨b3, 0, none⟩ = some (.int .i64 h2.by_.node) ∧ wq.cell? ⟨b3, 1, none⟩ = some (.int .i64 h2.by_.life) ∧ wq.cell? ⟨b3, 2, none⟩ = some (.int .i64 h2.by_.seq) ∧ wq.cell? ⟨b3, 3, none⟩ = some (.int .i64 h2.by_.att) ∧ wq.cell? ⟨b3, 4, none⟩ = some (.int .i64 h2.home) ∧ wq.cell? ⟨b3, 5, none⟩ = some (.int .i64 h2.at_.wall) ∧ wq.cell? ⟨b3, 6, none⟩ = some (.int .i64 h2.at_.tie) ∧ wq.cell? ⟨b3, 7, none⟩ = some (.bool h2.drop) ∧ wq.cell? ⟨b3, 8, none⟩ = some (.string h2.data)) ∧ (wq.cell? ⟨b4, 0, none⟩ = some (.int .i64 h2.by_.node) ∧ wq.cell? ⟨b4, 1, none⟩ = some (.int .i64 h2.by_.life) ∧ wq.cell? ⟨b4, 2, none⟩ = some (.int .i64 h2.by_.seq) ∧ wq.cell? ⟨b4, 3, none⟩ = some (.int .i64 h2.by_.att) ∧ wq.cell? ⟨b4, 4, none⟩ = some (.int .i64 h2.home) ∧ wq.cell? ⟨b4, 5, none⟩ = some (.int .i64 h2.at_.wall) ∧ wq.cell? ⟨b4, 6, none⟩ = some (.int .i64 h2.at_.tie) ∧ wq.cell? ⟨b4, 7, none⟩ = some (.bool h2.drop) ∧ wq.cell? ⟨b4, 8, none⟩ = some (.string h2.data))) := fun wq hq => by
      have c1 := kb1.below (((((((((hY5.trans (hY6.mono (hY5).size)).trans (hY7.mono ((hY5.trans (hY6.mono (hY5).size))).size)).trans (hY8.mono (((hY5.trans (hY6.mono (hY5).size)).trans (hY7.mono ((hY5.trans (hY6.mono (hY5).size))).size))).size)).trans (hY9.mono ((((hY5.trans (hY6.mono (hY5).size)).trans (hY7.mono ((hY5.trans (hY6.mono (hY5).size))).size)).trans (hY8.mono (((hY5.trans (hY6.mono (hY5).size)).trans (hY7.mono ((hY5.trans (hY6.mono (hY5).size))).size))).size))).size)).trans (hY10.mono (((((hY5.trans (hY6.mono (hY5).size)).trans (hY7.mono ((hY5.trans (hY6.mono (hY5).size))).size)).trans (hY8.mono (((hY5.trans (hY6.mono (hY5).size)).trans (hY7.mono ((hY5.trans (hY6.mono (hY5).size))).size))).size)).trans (hY9.mono ((((hY5.trans (hY6.mono (hY5).size)).trans (hY7.mono ((hY5.trans (hY6.mono (hY5).size))).size)).trans (hY8.mono (((hY5.trans (hY6.mono (hY5).size)).trans (hY7.mono ((hY5.trans (hY6.mono (hY5).size))).size))).size))).size))).size)).trans (hY11.mono ((((((hY5.trans (hY6.mono (hY5).size)).trans (hY7.mono ((hY5.trans (hY6.mono (hY5).size))).size)).trans (hY8.mono (((hY5.trans (hY6.mono (hY5).size)).trans (hY7.mono ((hY5.trans (hY6.mono (hY5).size))).size))).size)).trans (hY9.mono ((((hY5.trans (hY6.mono (hY5).size)).trans (hY7.mono ((hY5.trans (hY6.mono (hY5).size))).size)).trans (hY8.mono (((hY5.trans (hY6.mono (hY5).size)).trans (hY7.mono ((hY5.trans (hY6.mono (hY5).size))).size))).size))).size)).trans (hY10.mono (((((hY5.trans (hY6.mono (hY5).size)).trans (hY7.mono ((hY5.trans (hY6.mono (hY5).size))).size)).trans (hY8.mono (((hY5.trans (hY6.mono (hY5).size)).trans (hY7.mono ((hY5.trans (hY6.mono (hY5).size))).size))).size)).trans (hY9.mono ((((hY5.trans (hY6.mono (hY5).size)).trans (hY7.mono ((hY5.trans (hY6.mono (hY5).size))).size)).trans (hY8.mono (((hY5.trans (hY6.mono (hY5).size)).trans (hY7.mono ((hY5.trans (hY6.mono (hY5).size))).size))).size))).size))).size))).size)).trans (hY12.mono (((((((hY5.trans (hY6.mono (hY5).size)).trans (hY7.mono ((hY5.trans (hY6.mono (hY5).size))).size)).trans (hY8.mono (((hY5.trans (hY6.mono (hY5).size)).trans (hY7.mono ((hY5.trans (hY6.mono (hY5).size))).size))).size)).trans (hY9.mono ((((hY5.trans (hY6.mono (hY5).size)).trans (hY7.mono ((hY5.trans (hY6.mono (hY5).size))).size)).trans (hY8.mono (((hY5.trans (hY6.mono (hY5).size)).trans (hY7.mono ((hY5.trans (hY6.mono (hY5).size))).size))).size))).size)).trans (hY10.mono (((((hY5.trans (hY6.mono (hY5).size)).trans (hY7.mono ((hY5.trans (hY6.mono (hY5).size))).size)).trans (hY8.mono (((hY5.trans (hY6.mono (hY5).size)).trans (hY7.mono ((hY5.trans (hY6.mono (hY5).size))).size))).size)).trans (hY9.mono ((((hY5.trans (hY6.mono (hY5).size)).trans (hY7.mono ((hY5.trans (hY6.mono (hY5).size))).size)).trans (hY8.mono (((hY5.trans (hY6.mono (hY5).size)).trans (hY7.mono ((hY5.trans (hY6.mono (hY5).size))).size))).size))).size))).size)).trans (hY11.mono ((((((hY5.trans (hY6.mono (hY5).size)).trans (hY7.mono ((hY5.trans (hY6.mono (hY5).size))).size)).trans (hY8.mono (((hY5.trans (hY6.mono (hY5).size)).trans (hY7.mono ((hY5.trans (hY6.mono (hY5).size))).size))).size)).trans (hY9.mono ((((hY5.trans (hY6.mono (hY5).size)).trans (hY7.mono ((hY5.trans (hY6.mono (hY5).size))).size)).trans (hY8.mono (((hY5.trans (hY6.mono (hY5).size)).trans (hY7.mono ((hY5.trans (hY6.mono (hY5).size))).size))).size))).size)).trans (hY10.mono (((((hY5.trans (hY6.mono (hY5).size)).trans (hY7.mono ((hY5.trans (hY6.mono (hY5).size))).size)).trans (hY8.mono (((hY5.trans (hY6.mono (hY5).size)).trans (hY7.mono ((hY5.trans (hY6.mono (hY5).size))).size))).size)).trans (hY9.mono ((((hY5.trans (hY6.mono (hY5).size)).trans (hY7.mono ((hY5.trans (hY6.mono (hY5).size))).size)).trans (hY8.mono (((hY5.trans (hY6.mono (hY5).size)).trans (hY7.mono ((hY5.trans (hY6.mono (hY5).size))).size))).size))).size))).size))).size))).size))).trans (hq.mono ((((((((hY5.trans (hY6.mono (hY5).size)).trans (hY7.mono ((hY5.trans (hY6.mono (hY5).size))).size)).trans (hY8.mono (((hY5.trans (hY6.mono (hY5).size)).trans (hY7.mono ((hY5.trans (hY6.mono (hY5).size))).size))).size)).trans (hY9.mono ((((hY5.trans (hY6.mono (hY5).size)).trans (hY7.mono ((hY5.trans (hY6.mono (hY5).size))).size)).trans (hY8.mono (((hY5.trans (hY6.mono (hY5).size)).trans (hY7.mono ((hY5.trans (hY6.mono (hY5).size))).size))).size))).size)).trans (hY10.mono (((((hY5.trans (hY6.mono (hY5).size)).trans (hY7.mono ((hY5.trans (hY6.mono (hY5).size))).size)).trans (hY8.mono (((hY5.trans (hY6.mono (hY5).size)).trans (hY7.mono ((hY5.trans (hY6.mono (hY5).size))).size))).size)).trans (hY9.mono ((((hY5.trans (hY6.mono (hY5).size)).trans (hY7.mono ((hY5.trans (hY6.mono (hY5).size))).size)).trans (hY8.mono (((hY5.trans (hY6.mono (hY5).size)).trans (hY7.mono ((hY5.trans (hY6.mono (hY5).size))).size))).size))).size))).size)).trans (hY11.mono ((((((hY5.trans (hY6.mono (hY5).size)).trans (hY7.mono ((hY5.trans (hY6.mono (hY5).size))).size)).trans (hY8.mono (((hY5.trans (hY6.mono (hY5).size)).trans (hY7.mono ((hY5.trans (hY6.mono (hY5).size))).size))).size)).trans (hY9.mono ((((hY5.trans (hY6.mono (hY5).size)).trans (hY7.mono ((hY5.trans (hY6.mono (hY5).size))).size)).trans (hY8.mono (((hY5.trans (hY6.mono (hY5).size)).trans (hY7.mono ((hY5.trans (hY6.mono (hY5).size))).size))).size))).size)).trans (hY10.mono (((((hY5.trans (hY6.mono (hY5).size)).trans (hY7.mono ((hY5.trans (hY6.mono (hY5).size))).size)).trans (hY8.mono (((hY5.trans (hY6.mono (hY5).size)).trans (hY7.mono ((hY5.trans (hY6.mono (hY5).size))).size))).size)).trans (hY9.mono ((((hY5.trans (hY6.mono (hY5).size)).trans (hY7.mono ((hY5.trans (hY6.mono (hY5).size))).size)).trans (hY8.mono (((hY5.trans (hY6.mono (hY5).size)).trans (hY7.mono ((hY5.trans (hY6.mono (hY5).size))).size))).size))).size))).size))).size)).trans (hY12.mono (((((((hY5.trans (hY6.mono (hY5).size)).trans (hY7.mono ((hY5.trans (hY6.mono (hY5).size))).size)).trans (hY8.mono (((hY5.trans (hY6.mono (hY5).size)).trans (hY7.mono ((hY5.trans (hY6.mono (hY5).size))).size))).size)).trans (hY9.mono ((((hY5.trans (hY6.mono (hY5).size)).trans (hY7.mono ((hY5.trans (hY6.mono (hY5).size))).size)).trans (hY8.mono (((hY5.trans (hY6.mono (hY5).size)).trans (hY7.mono ((hY5.trans (hY6.mono (hY5).size))).size))).size))).size)).trans (hY10.mono (((((hY5.trans (hY6.mono (hY5).size)).trans (hY7.mono ((hY5.trans (hY6.mono (hY5).size))).size)).trans (hY8.mono (((hY5.trans (hY6.mono (hY5).size)).trans (hY7.mono ((hY5.trans (hY6.mono (hY5).size))).size))).size)).trans (hY9.mono ((((hY5.trans (hY6.mono (hY5).size)).trans (hY7.mono ((hY5.trans (hY6.mono (hY5).size))).size)).trans (hY8.mono (((hY5.trans (hY6.mono (hY5).size)).trans (hY7.mono ((hY5.trans (hY6.mono (hY5).size))).size))).size))).size))).size)).trans (hY11.mono ((((((hY5.trans (hY6.mono (hY5).size)).trans (hY7.mono ((hY5.trans (hY6.mono (hY5).size))).size)).trans (hY8.mono (((hY5.trans (hY6.mono (hY5).size)).trans (hY7.mono ((hY5.trans (hY6.mono (hY5).size))).size))).size)).trans (hY9.mono ((((hY5.trans (hY6.mono (hY5).size)).trans (hY7.mono ((hY5.trans (hY6.mono (hY5).size))).size)).trans (hY8.mono (((hY5.trans (hY6.mono (hY5).size)).trans (hY7.mono ((hY5.trans (hY6.mono (hY5).size))).size))).size))).size)).trans (hY10.mono (((((hY5.trans (hY6.mono (hY5).size)).trans (hY7.mono ((hY5.trans (hY6.mono (hY5).size))).size)).trans (hY8.mono (((hY5.trans (hY6.mono (hY5).size)).trans (hY7.mono ((hY5.trans (hY6.mono (hY5).size))).size))).size)).trans (hY9.mono ((((hY5.trans (hY6.mono (hY5).size)).trans (hY7.mono ((hY5.trans (hY6.mono (hY5).size))).size)).trans (hY8.mono (((hY5.trans (hY6.mono (hY5).size)).trans (hY7.mono ((hY5.trans (hY6.mono (hY5).size))).size))).size))).size))).size))).size))).size))).size)) kb1.lt
      have c2 := kb2.below (((((((hY7.trans (hY8.mono (hY7).size)).trans (hY9.mono ((hY7.trans (hY8.mono (hY7).size))).size)).trans (hY10.mono (((hY7.trans (hY8.mono (hY7).size)).trans (hY9.mono ((hY7.trans (hY8.mono (hY7).size))).size))).size)).trans (hY11.mono ((((hY7.trans (hY8.mono (hY7).size)).trans (hY9.mono ((hY7.trans (hY8.mono (hY7).size))).size)).trans (hY10.mono (((hY7.trans (hY8.mono (hY7).size)).trans (hY9.mono ((hY7.trans (hY8.mono (hY7).size))).size))).size))).size)).trans (hY12.mono (((((hY7.trans (hY8.mono (hY7).size)).trans (hY9.mono ((hY7.trans (hY8.mono (hY7).size))).size)).trans (hY10.mono (((hY7.trans (hY8.mono (hY7).size)).trans (hY9.mono ((hY7.trans (hY8.mono (hY7).size))).size))).size)).trans (hY11.mono ((((hY7.trans (hY8.mono (hY7).size)).trans (hY9.mono ((hY7.trans (hY8.mono (hY7).size))).size)).trans (hY10.mono (((hY7.trans (hY8.mono (hY7).size)).trans (hY9.mono ((hY7.trans (hY8.mono (hY7).size))).size))).size))).size))).size))).trans (hq.mono ((((((hY7.trans (hY8.mono (hY7).size)).trans (hY9.mono ((hY7.trans (hY8.mono (hY7).size))).size)).trans (hY10.mono (((hY7.trans (hY8.mono (hY7).size)).trans (hY9.mono ((hY7.trans (hY8.mono (hY7).size))).size))).size)).trans (hY11.mono ((((hY7.trans (hY8.mono (hY7).size)).trans (hY9.mono ((hY7.trans (hY8.mono (hY7).size))).size)).trans (hY10.mono (((hY7.trans (hY8.mono (hY7).size)).trans (hY9.mono ((hY7.trans (hY8.mono (hY7).size))).size))).size))).size)).trans (hY12.mono (((((hY7.trans (hY8.mono (hY7).size)).trans (hY9.mono ((hY7.trans (hY8.mono (hY7).size))).size)).trans (hY10.mono (((hY7.trans (hY8.mono (hY7).size)).trans (hY9.mono ((hY7.trans (hY8.mono (hY7).size))).size))).size)).trans (hY11.mono ((((hY7.trans (hY8.mono (hY7).size)).trans (hY9.mono ((hY7.trans (hY8.mono (hY7).size))).size)).trans (hY10.mono (((hY7.trans (hY8.mono (hY7).size)).trans (hY9.mono ((hY7.trans (hY8.mono (hY7).size))).size))).size))).size))).size))).size)) kb2.lt
      have c3 := kb3.below (((hY11.trans (hY12.mono (hY11).size))).trans (hq.mono ((hY11.trans (hY12.mono (hY11).size))).size)) kb3.lt
      have c4 := kb4.below hq kb4.lt
      have h := HS.out _ (q12.trans (hq.mono q12.size))
      exact ⟨h, blk9 c1, blk9 c2, blk9 c3, blk9 c4⟩
    have p0 : Below y12.heap.size y12 y12.drew := (Below.refl _ _).drew
    have HC9 := Lib.hid (fun wq (hq : Below y12.heap.size y12 wq) => B0.out _ (q12.trans (hq.mono q12.size)))
    have hP5' := hP5.below ((((hY8.trans (hY9.mono (hY8).size)).trans (hY10.mono ((hY8.trans (hY9.mono (hY8).size))).size)).trans (hY11.mono (((hY8.trans (hY9.mono (hY8).size)).trans (hY10.mono ((hY8.trans (hY9.mono (hY8).size))).size))).size)).trans (hY12.mono ((((hY8.trans (hY9.mono (hY8).size)).trans (hY10.mono ((hY8.trans (hY9.mono (hY8).size))).size)).trans (hY11.mono (((hY8.trans (hY9.mono (hY8).size)).trans (hY10.mono ((hY8.trans (hY9.mono (hY8).size))).size))).size))).size))
    have hP6' := hP6.below (((hY9.trans (hY10.mono (hY9).size)).trans (hY11.mono ((hY9.trans (hY10.mono (hY9).size))).size)).trans (hY12.mono (((hY9.trans (hY10.mono (hY9).size)).trans (hY11.mono ((hY9.trans (hY10.mono (hY9).size))).size))).size))
    have hQ5 := B0.out _ q12
    have HX1 := Lib.hid (fun i (hi : i < ps.length) => ps_at hP5 rfl hi)
    have HX2 := Lib.hid (fun i (hi : i < ps.length) => ps_at hP6 rfl hi)
    clear hP5 hP6
    clear kb1 kb2 kb3 kb4 hNL
    refine wp_region_held_drew (S := fun wq => (wq.cell? ⟨w.heap.size, 0, none⟩ = some (.int .i64 ta.wall) ∧ wq.cell? ⟨w.heap.size, 1, none⟩ = some (.int .i64 ta.tie) ∧ wq.cell? ⟨w.heap.size + 1, 0, none⟩ = some (.string lo) ∧ wq.cell? ⟨w.heap.size + 1, 1, none⟩ = some (.string hi) ∧ wq.cell? ⟨w.heap.size + 2, 0, none⟩ = some (.int .i64 by_.node) ∧ wq.cell? ⟨w.heap.size + 2, 1, none⟩ = some (.int .i64 by_.life) ∧ wq.cell? ⟨w.heap.size + 2, 2, none⟩ = some (.int .i64 by_.seq) ∧ wq.cell? ⟨w.heap.size + 2, 3, none⟩ = some (.int .i64 by_.att)) ∧ (wq.cell? ⟨b1, 0, none⟩ = some (.int .i64 h1.by_.node) ∧ wq.cell? ⟨b1, 1, none⟩ = some (.int .i64 h1.by_.life) ∧ wq.cell? ⟨b1, 2, none⟩ = some (.int .i64 h1.by_.seq) ∧ wq.cell? ⟨b1, 3, none⟩ = some (.int .i64 h1.by_.att) ∧ wq.cell? ⟨b1, 4, none⟩ = some (.int .i64 h1.home) ∧ wq.cell? ⟨b1, 5, none⟩ = some (.int .i64 h1.at_.wall) ∧ wq.cell? ⟨b1, 6, none⟩ = some (.int .i64 h1.at_.tie) ∧ wq.cell? ⟨b1, 7, none⟩ = some (.bool h1.drop) ∧ wq.cell? ⟨b1, 8, none⟩ = some (.string h1.data)) ∧ (wq.cell? ⟨b2, 0, none⟩ = some (.int .i64 h1.by_.node) ∧ wq.cell? ⟨b2, 1, none⟩ = some (.int .i64 h1.by_.life) ∧ wq.cell? ⟨b2, 2, none⟩ = some (.int .i64 h1.by_.seq) ∧ wq.cell? ⟨b2, 3, none⟩ = some (.int .i64 h1.by_.att) ∧ wq.cell? ⟨b2, 4, none⟩ = some (.int .i64 h1.home) ∧ wq.cell? ⟨b2, 5, none⟩ = some (.int .i64 h1.at_.wall) ∧ wq.cell? ⟨b2, 6, none⟩ = some (.int .i64 h1.at_.tie) ∧ wq.cell? ⟨b2, 7, none⟩ = some (.bool h1.drop) ∧ wq.cell? ⟨b2, 8, none⟩ = some (.string h1.data)) ∧ (wq.cell? ⟨b3, 0, none⟩ = some (.int .i64 h2.by_.node) ∧ wq.cell? ⟨b3, 1, none⟩ = some (.int .i64 h2.by_.life) ∧ wq.cell? ⟨b3, 2, none⟩ = some (.int .i64 h2.by_.seq) ∧ wq.cell? ⟨b3, 3, none⟩ = some (.int .i64 h2.by_.att) ∧ wq.cell? ⟨b3, 4, none⟩ = some (.int .i64 h2.home) ∧ wq.cell? ⟨b3, 5, none⟩ = some (.int .i64 h2.at_.wall) ∧ wq.cell? ⟨b3, 6, none⟩ = some (.int .i64 h2.at_.tie) ∧ wq.cell? ⟨b3, 7, none⟩ = some (.bool h2.drop) ∧ wq.cell? ⟨b3, 8, none⟩ = some (.string h2.data)) ∧ (wq.cell? ⟨b4, 0, none⟩ = some (.int .i64 h2.by_.node) ∧ wq.cell? ⟨b4, 1, none⟩ = some (.int .i64 h2.by_.life) ∧ wq.cell? ⟨b4, 2, none⟩ = some (.int .i64 h2.by_.seq) ∧ wq.cell? ⟨b4, 3, none⟩ = some (.int .i64 h2.by_.att) ∧ wq.cell? ⟨b4, 4, none⟩ = some (.int .i64 h2.home) ∧ wq.cell? ⟨b4, 5, none⟩ = some (.int .i64 h2.at_.wall) ∧ wq.cell? ⟨b4, 6, none⟩ = some (.int .i64 h2.at_.tie) ∧ wq.cell? ⟨b4, 7, none⟩ = some (.bool h2.drop) ∧ wq.cell? ⟨b4, 8, none⟩ = some (.string h2.data))) (by kernel_rfl) ?s_0 (fun hHeld => ?_)
    case s_0 => exact HS9.out _ p0
    refine tk 0 { dst := some 86, op := .move (.tmp 13), type := 9, pos := "law.go:83", after := #[], guard := none } _ ?_
    try simp only [Act.put, List.setIfInBounds_toArray, List.set_cons_zero, List.set_cons_succ]
    refine tk 1 { dst := some 87, op := .move (.tmp 15), type := 9, pos := "law.go:83", after := #[], guard := none } _ ?_
    try simp only [Act.put, List.setIfInBounds_toArray, List.set_cons_zero, List.set_cons_succ]
    refine tk 2 { dst := some 88, op := .binOp .neq 9 (.tmp 86) (.tmp 87) 9, type := 4, pos := "law.go:83", after := #[{ on := 0, ground := .data }, { on := 1, ground := .data }], guard := none } _ ?_
    try simp only [Act.put, List.setIfInBounds_toArray, List.set_cons_zero, List.set_cons_succ]
    refine tk 3 { dst := some 89, op := .move (.tmp 88), type := 4, pos := "law.go:83", after := #[{ on := 2, ground := .data }], guard := none } _ ?_
    try simp only [Act.put, List.setIfInBounds_toArray, List.set_cons_zero, List.set_cons_succ]
    refine tk 4 { dst := some 90, op := .move (.tmp 14), type := 4, pos := "law.go:83", after := #[{ on := 3, ground := .guard }], guard := some (3, false) } _ ?_
    try simp only [Act.put, List.setIfInBounds_toArray, List.set_cons_zero, List.set_cons_succ]
    refine tk 5 { dst := some 91, op := .move (.tmp 16), type := 4, pos := "law.go:83", after := #[{ on := 3, ground := .guard }], guard := some (3, false) } _ ?_
    try simp only [Act.put, List.setIfInBounds_toArray, List.set_cons_zero, List.set_cons_succ]
    refine tk 6 { dst := some 92, op := .binOp .neq 4 (.tmp 90) (.tmp 91) 4, type := 4, pos := "law.go:83", after := #[{ on := 4, ground := .data }, { on := 5, ground := .data }, { on := 3, ground := .guard }], guard := some (3, false) } _ ?_
    try simp only [Act.put, List.setIfInBounds_toArray, List.set_cons_zero, List.set_cons_succ]
    refine tk 7 { dst := some 93, op := .pick (.tmp 89) (.const (.bool true)) (.tmp 92), type := 4, pos := "law.go:83", after := #[{ on := 3, ground := .data }, { on := 6, ground := .data }], guard := none } _ ?_
    try simp only [Act.put, List.setIfInBounds_toArray, List.set_cons_zero, List.set_cons_succ]
    refine tk 8 { dst := some 94, op := .move (.tmp 93), type := 4, pos := "law.go:83", after := #[{ on := 7, ground := .data }, { on := 3, ground := .chain }], guard := none } _ ?_
    try simp only [Act.put, List.setIfInBounds_toArray, List.set_cons_zero, List.set_cons_succ]
    refine tk 9 { dst := some 95, op := .load 38 (.tmp 17), type := 38, pos := "law.go:83", after := #[{ on := 8, ground := .guard }], guard := some (8, false) } _ ?_
    try simp only [Act.put, List.setIfInBounds_toArray, List.set_cons_zero, List.set_cons_succ]
    refine tk 10 { dst := some 96, op := .load 38 (.tmp 19), type := 38, pos := "law.go:83", after := #[{ on := 8, ground := .guard }], guard := some (8, false) } _ ?_
    try simp only [Act.put, List.setIfInBounds_toArray, List.set_cons_zero, List.set_cons_succ]
    refine tk 11 { dst := some 97, op := .binOp .neq 38 (.tmp 95) (.tmp 96) 38, type := 4, pos := "law.go:83", after := #[{ on := 9, ground := .data }, { on := 10, ground := .data }, { on := 8, ground := .guard }], guard := some (8, false) } _ ?_
    try simp only [Act.put, List.setIfInBounds_toArray, List.set_cons_zero, List.set_cons_succ]
    refine tk 12 { dst := some 98, op := .pick (.tmp 94) (.const (.bool true)) (.tmp 97), type := 4, pos := "law.go:83", after := #[{ on := 8, ground := .data }, { on := 11, ground := .data }], guard := none } _ ?_
    try simp only [Act.put, List.setIfInBounds_toArray, List.set_cons_zero, List.set_cons_succ]
    refine tk 13 { dst := some 99, op := .move (.tmp 98), type := 4, pos := "law.go:83", after := #[{ on := 12, ground := .data }, { on := 8, ground := .chain }], guard := none } _ ?_
    try simp only [Act.put, List.setIfInBounds_toArray, List.set_cons_zero, List.set_cons_succ]
    refine tk 14 { dst := some 100, op := .move (.tmp 18), type := 4, pos := "law.go:83", after := #[{ on := 13, ground := .guard }], guard := some (13, false) } _ ?_
    try simp only [Act.put, List.setIfInBounds_toArray, List.set_cons_zero, List.set_cons_succ]
    refine tk 15 { dst := some 101, op := .move (.tmp 20), type := 4, pos := "law.go:83", after := #[{ on := 13, ground := .guard }], guard := some (13, false) } _ ?_
    try simp only [Act.put, List.setIfInBounds_toArray, List.set_cons_zero, List.set_cons_succ]
    refine tk 16 { dst := some 102, op := .binOp .neq 4 (.tmp 100) (.tmp 101) 4, type := 4, pos := "law.go:83", after := #[{ on := 14, ground := .data }, { on := 15, ground := .data }, { on := 13, ground := .guard }], guard := some (13, false) } _ ?_
    try simp only [Act.put, List.setIfInBounds_toArray, List.set_cons_zero, List.set_cons_succ]
    refine tk 17 { dst := some 103, op := .pick (.tmp 99) (.const (.bool true)) (.tmp 102), type := 4, pos := "law.go:83", after := #[{ on := 13, ground := .data }, { on := 16, ground := .data }], guard := none } _ ?_
    try simp only [Act.put, List.setIfInBounds_toArray, List.set_cons_zero, List.set_cons_succ]
    refine tk 18 { dst := some 104, op := .move (.tmp 103), type := 4, pos := "law.go:83", after := #[{ on := 17, ground := .data }, { on := 13, ground := .chain }], guard := none } _ ?_
    try simp only [Act.put, List.setIfInBounds_toArray, List.set_cons_zero, List.set_cons_succ]
    refine tk 19 { dst := some 105, op := .move (.tmp 22), type := 54, pos := "law.go:83", after := #[{ on := 18, ground := .guard }], guard := some (18, false) } _ ?_
    try simp only [Act.put, List.setIfInBounds_toArray, List.set_cons_zero, List.set_cons_succ]
    refine tk 20 { dst := some 106, op := .move (.tmp 24), type := 54, pos := "law.go:83", after := #[{ on := 18, ground := .guard }], guard := some (18, false) } _ ?_
    try simp only [Act.put, List.setIfInBounds_toArray, List.set_cons_zero, List.set_cons_succ]
    refine tk 21 { dst := some 107, op := .binOp .neq 54 (.tmp 105) (.tmp 106) 54, type := 4, pos := "law.go:83", after := #[{ on := 19, ground := .data }, { on := 20, ground := .data }, { on := 18, ground := .guard }], guard := some (18, false) } _ ?_
    try simp only [Act.put, List.setIfInBounds_toArray, List.set_cons_zero, List.set_cons_succ]
    refine tk 22 { dst := some 108, op := .pick (.tmp 104) (.const (.bool true)) (.tmp 107), type := 4, pos := "law.go:83", after := #[{ on := 18, ground := .data }, { on := 21, ground := .data }], guard := none } _ ?_
    try simp only [Act.put, List.setIfInBounds_toArray, List.set_cons_zero, List.set_cons_succ]
    refine tk 23 { dst := some 109, op := .move (.tmp 108), type := 4, pos := "law.go:83", after := #[{ on := 22, ground := .data }, { on := 18, ground := .chain }], guard := none } _ ?_
    try simp only [Act.put, List.setIfInBounds_toArray, List.set_cons_zero, List.set_cons_succ]
    refine tk 24 { dst := some 110, op := .load 38 (.tmp 25), type := 38, pos := "law.go:83", after := #[{ on := 23, ground := .guard }], guard := some (23, false) } _ ?_
    try simp only [Act.put, List.setIfInBounds_toArray, List.set_cons_zero, List.set_cons_succ]
    refine tk 25 { dst := some 111, op := .load 38 (.tmp 27), type := 38, pos := "law.go:83", after := #[{ on := 23, ground := .guard }], guard := some (23, false) } _ ?_
    try simp only [Act.put, List.setIfInBounds_toArray, List.set_cons_zero, List.set_cons_succ]
    refine tk 26 { dst := some 112, op := .binOp .neq 38 (.tmp 110) (.tmp 111) 38, type := 4, pos := "law.go:83", after := #[{ on := 24, ground := .data }, { on := 25, ground := .data }, { on := 23, ground := .guard }], guard := some (23, false) } _ ?_
    try simp only [Act.put, List.setIfInBounds_toArray, List.set_cons_zero, List.set_cons_succ]
    refine tk 27 { dst := some 113, op := .pick (.tmp 109) (.const (.bool true)) (.tmp 112), type := 4, pos := "law.go:83", after := #[{ on := 23, ground := .data }, { on := 26, ground := .data }], guard := none } _ ?_
    try simp only [Act.put, List.setIfInBounds_toArray, List.set_cons_zero, List.set_cons_succ]
    refine tk 28 { dst := some 114, op := .move (.tmp 113), type := 4, pos := "law.go:83", after := #[{ on := 27, ground := .data }, { on := 23, ground := .chain }], guard := none } _ ?_
    try simp only [Act.put, List.setIfInBounds_toArray, List.set_cons_zero, List.set_cons_succ]
    refine tk 29 { dst := some 115, op := .move (.tmp 26), type := 4, pos := "law.go:83", after := #[{ on := 28, ground := .guard }], guard := some (28, false) } _ ?_
    try simp only [Act.put, List.setIfInBounds_toArray, List.set_cons_zero, List.set_cons_succ]
    refine tk 30 { dst := some 116, op := .move (.tmp 28), type := 4, pos := "law.go:83", after := #[{ on := 28, ground := .guard }], guard := some (28, false) } _ ?_
    try simp only [Act.put, List.setIfInBounds_toArray, List.set_cons_zero, List.set_cons_succ]
    refine tk 31 { dst := some 117, op := .binOp .neq 4 (.tmp 115) (.tmp 116) 4, type := 4, pos := "law.go:83", after := #[{ on := 29, ground := .data }, { on := 30, ground := .data }, { on := 28, ground := .guard }], guard := some (28, false) } _ ?_
    try simp only [Act.put, List.setIfInBounds_toArray, List.set_cons_zero, List.set_cons_succ]
    refine tk 32 { dst := some 118, op := .pick (.tmp 114) (.const (.bool true)) (.tmp 117), type := 4, pos := "law.go:83", after := #[{ on := 28, ground := .data }, { on := 31, ground := .data }], guard := none } _ ?_
    try simp only [Act.put, List.setIfInBounds_toArray, List.set_cons_zero, List.set_cons_succ]
    refine tk 33 { dst := some 119, op := .move (.tmp 118), type := 4, pos := "law.go:83", after := #[{ on := 32, ground := .data }, { on := 28, ground := .chain }], guard := none } _ ?_
    try simp only [Act.put, List.setIfInBounds_toArray, List.set_cons_zero, List.set_cons_succ]
    refine tk 34 { dst := some 120, op := .move (.tmp 21), type := 53, pos := "law.go:83", after := #[{ on := 33, ground := .guard }], guard := some (33, false) } _ ?_
    try simp only [Act.put, List.setIfInBounds_toArray, List.set_cons_zero, List.set_cons_succ]
    refine tk 35 { dst := some 121, op := .call { callee := .builtin .len, args := #[.tmp 120], argTypes := #[53] }, type := 3, pos := "law.go:83", after := #[{ on := 34, ground := .data }, { on := 33, ground := .guard }], guard := some (33, false) } _ ?_
    try simp only [Act.put, List.setIfInBounds_toArray, List.set_cons_zero, List.set_cons_succ]
    refine tk 36 { dst := some 122, op := .move (.tmp 23), type := 53, pos := "law.go:83", after := #[{ on := 33, ground := .guard }], guard := some (33, false) } _ ?_
    try simp only [Act.put, List.setIfInBounds_toArray, List.set_cons_zero, List.set_cons_succ]
    refine tk 37 { dst := some 123, op := .call { callee := .builtin .len, args := #[.tmp 122], argTypes := #[53] }, type := 3, pos := "law.go:83", after := #[{ on := 36, ground := .data }, { on := 33, ground := .guard }], guard := some (33, false) } _ ?_
    try simp only [Act.put, List.setIfInBounds_toArray, List.set_cons_zero, List.set_cons_succ]
    refine tk 38 { dst := some 124, op := .binOp .neq 3 (.tmp 121) (.tmp 123) 3, type := 4, pos := "law.go:83", after := #[{ on := 35, ground := .data }, { on := 37, ground := .data }, { on := 33, ground := .guard }], guard := some (33, false) } _ ?_
    try simp only [Act.put, List.setIfInBounds_toArray, List.set_cons_zero, List.set_cons_succ]
    refine tk 39 { dst := some 125, op := .pick (.tmp 119) (.const (.bool true)) (.tmp 124), type := 4, pos := "law.go:83", after := #[{ on := 33, ground := .data }, { on := 38, ground := .data }], guard := none } _ ?_
    try simp only [Act.put, List.setIfInBounds_toArray, List.set_cons_zero, List.set_cons_succ]
    refine tk 40 { dst := some 126, op := .move (.tmp 125), type := 4, pos := "law.go:83", after := #[{ on := 39, ground := .data }, { on := 33, ground := .chain }], guard := none } _ ?_
    try simp only [Act.put, List.setIfInBounds_toArray, List.set_cons_zero, List.set_cons_succ]
    refine tk 41 { dst := some 127, op := .move (.tmp 0), type := 31, pos := "law.go:83", after := #[{ on := 40, ground := .guard }], guard := some (40, false) } _ ?_
    try simp only [Act.put, List.setIfInBounds_toArray, List.set_cons_zero, List.set_cons_succ]
    refine tk 42 { dst := some 128, op := .load 28 (.tmp 10), type := 28, pos := "law.go:83", after := #[{ on := 40, ground := .guard }], guard := some (40, false) } _ ?_
    try simp only [Act.put, List.setIfInBounds_toArray, List.set_cons_zero, List.set_cons_succ]
    refine tk 44 { dst := some 130, op := .move (.tmp 0), type := 31, pos := "law.go:83", after := #[{ on := 40, ground := .guard }], guard := some (40, false) } _ ?_
    try simp only [Act.put, List.setIfInBounds_toArray, List.set_cons_zero, List.set_cons_succ]
    refine tk 45 { dst := some 131, op := .load 28 (.tmp 10), type := 28, pos := "law.go:83", after := #[{ on := 40, ground := .guard }], guard := some (40, false) } _ ?_
    try simp only [Act.put, List.setIfInBounds_toArray, List.set_cons_zero, List.set_cons_succ]
    refine wpAnyH_ready (rs := [43]) (by kernel_rfl) (by simp) ?_
    refine AllReadyH.cons (o := { dst := some 129, op := .call { callee := .value (.func 23), args := #[.tmp 127, .tmp 128], argTypes := #[31, 28] }, type := 4, pos := "law.go:83", after := #[{ on := 41, ground := .data }, { on := 42, ground := .data }, { on := 40, ground := .chain }, { on := 40, ground := .guard }], guard := some (40, false) }) rfl (fun KQ hKQ => ?_) AllReadyH.nil
    go_simp
    refine (M1.out _ (HC9.out _ p0)).mono ?_
    rintro e z1 ⟨rfl, hZ1⟩
    have p1 := p0.trans (hZ1.mono p0.size)
    have r1 := HS9.out _ p1
    go_wp2_with fail
    refine hKQ.out _ _ ?s_43 (fun hHeld43 => ?_)
    case s_43 => exact r1
    clear hKQ KQ
    try simp only [Act.put, List.setIfInBounds_toArray, List.set_cons_zero, List.set_cons_succ]
    refine wpAnyH_ready (rs := [46]) (by kernel_rfl) (by simp) ?_
    refine AllReadyH.cons (o := { dst := some 132, op := .call { callee := .value (.func 37), args := #[.tmp 130, .tmp 131], argTypes := #[31, 28] }, type := 4, pos := "law.go:83", after := #[{ on := 44, ground := .data }, { on := 45, ground := .data }, { on := 43, ground := .chain }, { on := 40, ground := .guard }], guard := some (40, false) }) rfl (fun KQ hKQ => ?_) AllReadyH.nil
    go_simp
    refine (M2.out _ (HC9.out _ p1)).mono ?_
    rintro e z2 ⟨rfl, hZ2⟩
    have p2 := p1.trans (hZ2.mono p1.size)
    have r2 := HS9.out _ p2
    go_wp2_with fail
    refine hKQ.out _ _ ?s_46 (fun hHeld46 => ?_)
    case s_46 => exact r2
    clear hKQ KQ
    try simp only [Act.put, List.setIfInBounds_toArray, List.set_cons_zero, List.set_cons_succ]
    refine tk 47 { dst := some 133, op := .binOp .neq 4 (.tmp 129) (.tmp 132) 4, type := 4, pos := "law.go:83", after := #[{ on := 43, ground := .data }, { on := 46, ground := .data }, { on := 40, ground := .guard }], guard := some (40, false) } _ ?_
    try simp only [Act.put, List.setIfInBounds_toArray, List.set_cons_zero, List.set_cons_succ]
    refine tk 48 { dst := some 134, op := .pick (.tmp 126) (.const (.bool true)) (.tmp 133), type := 4, pos := "law.go:83", after := #[{ on := 40, ground := .data }, { on := 47, ground := .data }], guard := none } _ ?_
    try simp only [Act.put, List.setIfInBounds_toArray, List.set_cons_zero, List.set_cons_succ]
    refine tk 49 { dst := some 135, op := .move (.tmp 134), type := 4, pos := "law.go:83", after := #[{ on := 48, ground := .data }, { on := 46, ground := .chain }], guard := none } _ ?_
    try simp only [Act.put, List.setIfInBounds_toArray, List.set_cons_zero, List.set_cons_succ]
    refine tk 50 { dst := some 136, op := .move (.tmp 0), type := 31, pos := "law.go:83", after := #[{ on := 49, ground := .guard }], guard := some (49, false) } _ ?_
    try simp only [Act.put, List.setIfInBounds_toArray, List.set_cons_zero, List.set_cons_succ]
    refine tk 52 { dst := some 138, op := .move (.tmp 0), type := 31, pos := "law.go:83", after := #[{ on := 49, ground := .guard }], guard := some (49, false) } _ ?_
    try simp only [Act.put, List.setIfInBounds_toArray, List.set_cons_zero, List.set_cons_succ]
    refine wpAnyH_ready (rs := [51]) (by kernel_rfl) (by simp) ?_
    refine AllReadyH.cons (o := { dst := some 137, op := .call { callee := .value (.func 19), args := #[.tmp 136], argTypes := #[31] }, type := 4, pos := "law.go:83", after := #[{ on := 50, ground := .data }, { on := 49, ground := .chain }, { on := 49, ground := .guard }], guard := some (49, false) }) rfl (fun KQ hKQ => ?_) AllReadyH.nil
    go_simp
    refine (Y1.out _ (HC9.out _ p2)).mono ?_
    rintro e z3 ⟨rfl, hZ3⟩
    have p3 := p2.trans (hZ3.mono p2.size)
    have r3 := HS9.out _ p3
    go_wp2_with fail
    refine hKQ.out _ _ ?s_51 (fun hHeld51 => ?_)
    case s_51 => exact r3
    clear hKQ KQ
    try simp only [Act.put, List.setIfInBounds_toArray, List.set_cons_zero, List.set_cons_succ]
    refine wpAnyH_ready (rs := [53]) (by kernel_rfl) (by simp) ?_
    refine AllReadyH.cons (o := { dst := some 139, op := .call { callee := .value (.func 18), args := #[.tmp 138], argTypes := #[31] }, type := 4, pos := "law.go:83", after := #[{ on := 52, ground := .data }, { on := 51, ground := .chain }, { on := 49, ground := .guard }], guard := some (49, false) }) rfl (fun KQ hKQ => ?_) AllReadyH.nil
    go_simp
    refine (Y2.out _ (HC9.out _ p3)).mono ?_
    rintro e z4 ⟨rfl, hZ4⟩
    have p4 := p3.trans (hZ4.mono p3.size)
    have r4 := HS9.out _ p4
    go_wp2_with fail
    refine hKQ.out _ _ ?s_53 (fun hHeld53 => ?_)
    case s_53 => exact r4
    clear hKQ KQ
    try simp only [Act.put, List.setIfInBounds_toArray, List.set_cons_zero, List.set_cons_succ]
    refine tk 54 { dst := some 140, op := .binOp .neq 4 (.tmp 137) (.tmp 139) 4, type := 4, pos := "law.go:83", after := #[{ on := 51, ground := .data }, { on := 53, ground := .data }, { on := 49, ground := .guard }], guard := some (49, false) } _ ?_
    try simp only [Act.put, List.setIfInBounds_toArray, List.set_cons_zero, List.set_cons_succ]
    refine tk 55 { dst := some 141, op := .pick (.tmp 135) (.const (.bool true)) (.tmp 140), type := 4, pos := "law.go:83", after := #[{ on := 49, ground := .data }, { on := 54, ground := .data }], guard := none } _ ?_
    try simp only [Act.put, List.setIfInBounds_toArray, List.set_cons_zero, List.set_cons_succ]
    refine wpAnyH_done (by kernel_rfl) ?_ _
    have hPx := hP5'.below p4
    have hPy := hP6'.below p4
    have hBw := HC9.out _ p4
    have hs5 : y7.heap.size ≤ z4.heap.size := Nat.le_trans (((((hY8.trans (hY9.mono (hY8).size)).trans (hY10.mono ((hY8.trans (hY9.mono (hY8).size))).size)).trans (hY11.mono (((hY8.trans (hY9.mono (hY8).size)).trans (hY10.mono ((hY8.trans (hY9.mono (hY8).size))).size))).size)).trans (hY12.mono ((((hY8.trans (hY9.mono (hY8).size)).trans (hY10.mono ((hY8.trans (hY9.mono (hY8).size))).size)).trans (hY11.mono (((hY8.trans (hY9.mono (hY8).size)).trans (hY10.mono ((hY8.trans (hY9.mono (hY8).size))).size))).size))).size))).size p4.size
    have hw5 : w.heap.size ≤ y6.heap.size := (B0.out _ q6).size
    obtain ⟨bx, hbx⟩ : ∃ bx, y6.heap.size = bx := ⟨_, rfl⟩
    obtain ⟨bz, hbz⟩ : ∃ bz, y7.heap.size = bz := ⟨_, rfl⟩
    rw [hbx] at hPx hw5
    rw [hbz] at hPy hs5
    rw [hbx, hbz] at HX1
    rw [hbz] at HX2
    clear hP5' hP6' hQ5 HS9 HC9 hHeld
    generalize hn' : ps.length = m at *
    go_wp2_with fail
    go_loopw [29] (fun iv wt => ∃ (j : Nat) (qs : List (ByteArray × ByteArray)), j ≤ m ∧ iv = .int .i64 j ∧ Hid (qs.length = m) ∧ Hid (∀ i, j ≤ i → qs[i]? = ps[i]?) ∧ Hid (OwnPs wt bx (.slice A5 m c5) qs) ∧ Hid (OwnPs wt bz (.slice A6 m c6) ps) ∧ Below w.heap.size w wt) (fun iv _ => m - (intOf iv).toNat)
    case atStart => exact ⟨0, ps, Nat.zero_le _, rfl, hn', fun _ _ => rfl, hPx, hPy, hBw⟩
    case round =>
      obtain ⟨j, qs, hj, rfl, hql, hqa, hOx, hOy, hBt⟩ := hrel
      by_cases hlt : j < m
      · obtain ⟨g1, p, rfl, hg0, hg1, hp, _⟩ := HX1.out j hlt
        obtain ⟨g2, p', rfl, hg2, _, _, _⟩ := HX2.out j hlt
        have hqp : qs[j]? = some p := (hqa.out j (Nat.le_refl _)).trans hp
        have hA1 := ps_cells hOx.out hql.out hqp
        have hA2 := ps_cells hOy.out hn' hp
        have HA : Hid (∀ wq : World, wq.heap = wr.heap → wq.cell? ⟨g1, j * 2, none⟩ = some (.string p.1) ∧ wq.cell? ⟨g1, j * 2 + 1, none⟩ = some (.string p.2) ∧ wq.cell? ⟨g2, j * 2, none⟩ = some (.string p.1) ∧ wq.cell? ⟨g2, j * 2 + 1, none⟩ = some (.string p.2)) := fun wq hq => ⟨(hA1.same (by rw [hq])) 0 _ rfl, (hA1.same (by rw [hq])) 1 _ rfl, (hA2.same (by rw [hq])) 0 _ rfl, (hA2.same (by rw [hq])) 1 _ rfl⟩
        have hNp := hNP p
        have HQP := Lib.hid hqp
        have hOx' := Lib.hid (hOx.out.below (Below.refl wr.heap.size wr).drew)
        have hOy' := Lib.hid (hOy.out.below (Below.refl wr.heap.size wr).drew)
        have hBd := hBt.drew
        clear hA1 hA2 hqp hp hOx hOy hBt
        go_upto_region 14 with (fail)
        refine wp_region_held_drew (S := fun wq : World => wq.cell? ⟨g1, j * 2, none⟩ = some (.string p.1) ∧ wq.cell? ⟨g1, j * 2 + 1, none⟩ = some (.string p.2) ∧ wq.cell? ⟨g2, j * 2, none⟩ = some (.string p.1) ∧ wq.cell? ⟨g2, j * 2 + 1, none⟩ = some (.string p.2)) (by kernel_rfl) ?s_1 (fun hHeld => ?_)
        case s_1 => exact HA.out _ rfl
        refine tk 0 { dst := some 148, op := .move (.tmp 21), type := 53, pos := "law.go:87", after := #[], guard := none } _ ?_
        try simp only [Act.put, List.setIfInBounds_toArray, List.set_cons_zero, List.set_cons_succ]
        refine tk 1 { dst := some 149, op := .move (.tmp 29), type := 3, pos := "law.go:87", after := #[], guard := none } _ ?_
        try simp only [Act.put, List.setIfInBounds_toArray, List.set_cons_zero, List.set_cons_succ]
        refine tk 2 { dst := some 150, op := .indexAddr 53 (.tmp 148) (.tmp 149), type := 0, pos := "law.go:87", after := #[{ on := 0, ground := .data }, { on := 1, ground := .data }], guard := none } _ ?_
        try simp only [Act.put, List.setIfInBounds_toArray, List.set_cons_zero, List.set_cons_succ]
        refine tk 3 { dst := some 151, op := .load 58 (.tmp 150), type := 58, pos := "law.go:87", after := #[{ on := 2, ground := .data }], guard := none } _ ?_
        try simp only [Act.put, List.setIfInBounds_toArray, List.set_cons_zero, List.set_cons_succ]
        refine tk 4 { dst := some 152, op := .move (.tmp 23), type := 53, pos := "law.go:87", after := #[], guard := none } _ ?_
        try simp only [Act.put, List.setIfInBounds_toArray, List.set_cons_zero, List.set_cons_succ]
        refine tk 5 { dst := some 153, op := .move (.tmp 29), type := 3, pos := "law.go:87", after := #[], guard := none } _ ?_
        try simp only [Act.put, List.setIfInBounds_toArray, List.set_cons_zero, List.set_cons_succ]
        refine tk 6 { dst := some 154, op := .indexAddr 53 (.tmp 152) (.tmp 153), type := 0, pos := "law.go:87", after := #[{ on := 4, ground := .data }, { on := 5, ground := .data }], guard := none } _ ?_
        try simp only [Act.put, List.setIfInBounds_toArray, List.set_cons_zero, List.set_cons_succ]
        refine tk 7 { dst := some 155, op := .load 58 (.tmp 154), type := 58, pos := "law.go:87", after := #[{ on := 6, ground := .data }], guard := none } _ ?_
        try simp only [Act.put, List.setIfInBounds_toArray, List.set_cons_zero, List.set_cons_succ]
        refine tk 8 { dst := some 156, op := .binOp .neq 58 (.tmp 151) (.tmp 155) 58, type := 4, pos := "law.go:87", after := #[{ on := 3, ground := .data }, { on := 7, ground := .data }], guard := none } _ ?_
        try simp only [Act.put, List.setIfInBounds_toArray, List.set_cons_zero, List.set_cons_succ]
        refine wpAnyH_done (by kernel_rfl) ?_ _
        go_upto_region 16 with (fail)
        obtain ⟨a0, a1, _, _⟩ := HA.out wr.drew rfl
        clear HA hHeld
        generalize wr.drew = wd at *
        have df := fun i => ps_frozen hOx'.out hql.out i
        have hne : g2 ≠ g1 := by omega
        have hO1 := Lib.hid (ps_set hOx'.out hql.out HQP.out { data := #[] } { data := #[] })
        have hh : ((wd.setCell ⟨g1, j * 2, none⟩ (.string { data := #[] })).setCell ⟨g1, j * 2 + 1, none⟩ (.string { data := #[] })).heap[g2]? = wd.heap[g2]? := (Below.heap_setCell _ ⟨g1, j * 2 + 1, none⟩ _ g2 hne).trans (Below.heap_setCell wd ⟨g1, j * 2, none⟩ _ g2 hne)
        have hO2 := Lib.hid (ps_keep hOy'.out hh)
        have hB2 := (hBd.setCell (p := ⟨g1, j * 2, none⟩) (show w.heap.size ≤ g1 by omega) (.string { data := #[] })).setCell (p := ⟨g1, j * 2 + 1, none⟩) (show w.heap.size ≤ g1 by omega) (.string { data := #[] })
        have HQ1 : Hid ((qs.set j ({ data := #[] }, { data := #[] })).length = m) := by rw [List.length_set]; exact hql
        have HQ2 : Hid (∀ i, j + 1 ≤ i → (qs.set j (({ data := #[] } : ByteArray), ({ data := #[] } : ByteArray)))[i]? = ps[i]?) := fun i hi => by rw [List.getElem?_set, if_neg (by omega)]; exact hqa.out i (by omega)
        clear hOx' hOy' hh hqa hql HQP
        go_wp2_with fail
        go_roundw
        case rel => exact ⟨j + 1, _, by omega, by go_num, HQ1, HQ2, hO1, hO2, hB2⟩
        case measure => simp [intOf]; omega
      · obtain rfl : j = m := by omega
        go_wp2_with fail
        go_ret
        exact ⟨rfl, hBt⟩
  · obtain ⟨s0, s1, s2, s3, s4, s5, s6, s7⟩ := HS.out _ q7
    go_wp2_with fail
    refine (S2.out _ (B0.out _ q7)).mono ?_
    rintro e y8 ⟨h6, hY8⟩
    have q8 := q7.trans (hY8.mono q7.size)
    clear s0 s1 s2 s3 s4 s5 s6 s7
    rcases h6 with ⟨hle, _⟩ | ⟨_, rfl⟩
    · omega
    obtain ⟨s0, s1, s2, s3, s4, s5, s6, s7⟩ := HS.out _ q8
    go_wp2_with fail
    refine (H1.out _ (B0.out _ q8)).mono ?_
    rintro e y9 ⟨rfl, hY9⟩
    have q9 := q8.trans (hY9.mono q8.size)
    clear s0 s1 s2 s3 s4 s5 s6 s7
    have kb3 : Blk 38 (y9.alloc (.cells #[.int .i64 h2.by_.node, .int .i64 h2.by_.life, .int .i64 h2.by_.seq, .int .i64 h2.by_.att, .int .i64 h2.home, .int .i64 h2.at_.wall, .int .i64 h2.at_.tie, .bool h2.drop, .string h2.data] 38)) y9.heap.size [.int .i64 h2.by_.node, .int .i64 h2.by_.life, .int .i64 h2.by_.seq, .int .i64 h2.by_.att, .int .i64 h2.home, .int .i64 h2.at_.wall, .int .i64 h2.at_.tie, .bool h2.drop, .string h2.data] := heap_alloc_new y9 _
    have q10 := q9.alloc q9.size (.cells #[.int .i64 h2.by_.node, .int .i64 h2.by_.life, .int .i64 h2.by_.seq, .int .i64 h2.by_.att, .int .i64 h2.home, .int .i64 h2.at_.wall, .int .i64 h2.at_.tie, .bool h2.drop, .string h2.data] 38)
    have hY10 : Below y9.heap.size y9 (y9.alloc (.cells #[.int .i64 h2.by_.node, .int .i64 h2.by_.life, .int .i64 h2.by_.seq, .int .i64 h2.by_.att, .int .i64 h2.home, .int .i64 h2.at_.wall, .int .i64 h2.at_.tie, .bool h2.drop, .string h2.data] 38)) := (Below.refl _ _).alloc (Nat.le_refl _) (.cells #[.int .i64 h2.by_.node, .int .i64 h2.by_.life, .int .i64 h2.by_.seq, .int .i64 h2.by_.att, .int .i64 h2.home, .int .i64 h2.at_.wall, .int .i64 h2.at_.tie, .bool h2.drop, .string h2.data] 38)
    have hlb3 := q9.size
    go_upto_region 8 with (fail)
    obtain ⟨b3, hb3⟩ : ∃ b, y9.heap.size = b := ⟨_, rfl⟩
    rw [hb3] at kb3 ⊢
    generalize (y9.alloc (.cells #[.int .i64 h2.by_.node, .int .i64 h2.by_.life, .int .i64 h2.by_.seq, .int .i64 h2.by_.att, .int .i64 h2.home, .int .i64 h2.at_.wall, .int .i64 h2.at_.tie, .bool h2.drop, .string h2.data] 38)) = y10 at *
    obtain ⟨s0, s1, s2, s3, s4, s5, s6, s7⟩ := HS.out _ q10
    go_wp2_with fail
    refine (H2.out _ (B0.out _ q10)).mono ?_
    rintro e y11 ⟨rfl, hY11⟩
    have q11 := q10.trans (hY11.mono q10.size)
    clear s0 s1 s2 s3 s4 s5 s6 s7
    have kb4 : Blk 38 (y11.alloc (.cells #[.int .i64 h2.by_.node, .int .i64 h2.by_.life, .int .i64 h2.by_.seq, .int .i64 h2.by_.att, .int .i64 h2.home, .int .i64 h2.at_.wall, .int .i64 h2.at_.tie, .bool h2.drop, .string h2.data] 38)) y11.heap.size [.int .i64 h2.by_.node, .int .i64 h2.by_.life, .int .i64 h2.by_.seq, .int .i64 h2.by_.att, .int .i64 h2.home, .int .i64 h2.at_.wall, .int .i64 h2.at_.tie, .bool h2.drop, .string h2.data] := heap_alloc_new y11 _
    have q12 := q11.alloc q11.size (.cells #[.int .i64 h2.by_.node, .int .i64 h2.by_.life, .int .i64 h2.by_.seq, .int .i64 h2.by_.att, .int .i64 h2.home, .int .i64 h2.at_.wall, .int .i64 h2.at_.tie, .bool h2.drop, .string h2.data] 38)
    have hY12 : Below y11.heap.size y11 (y11.alloc (.cells #[.int .i64 h2.by_.node, .int .i64 h2.by_.life, .int .i64 h2.by_.seq, .int .i64 h2.by_.att, .int .i64 h2.home, .int .i64 h2.at_.wall, .int .i64 h2.at_.tie, .bool h2.drop, .string h2.data] 38)) := (Below.refl _ _).alloc (Nat.le_refl _) (.cells #[.int .i64 h2.by_.node, .int .i64 h2.by_.life, .int .i64 h2.by_.seq, .int .i64 h2.by_.att, .int .i64 h2.home, .int .i64 h2.at_.wall, .int .i64 h2.at_.tie, .bool h2.drop, .string h2.data] 38)
    have hlb4 := q11.size
    go_upto_region 9 with (fail)
    obtain ⟨b4, hb4⟩ : ∃ b, y11.heap.size = b := ⟨_, rfl⟩
    rw [hb4] at kb4 ⊢
    generalize (y11.alloc (.cells #[.int .i64 h2.by_.node, .int .i64 h2.by_.life, .int .i64 h2.by_.seq, .int .i64 h2.by_.att, .int .i64 h2.home, .int .i64 h2.at_.wall, .int .i64 h2.at_.tie, .bool h2.drop, .string h2.data] 38)) = y12 at *
    have hNL1 := fun w => hNL h1 w
    have hNL2 := fun w => hNL h2 w
    have HS9 : Hid (∀ wq, Below y12.heap.size y12 wq → (wq.cell? ⟨w.heap.size, 0, none⟩ = some (.int .i64 ta.wall) ∧ wq.cell? ⟨w.heap.size, 1, none⟩ = some (.int .i64 ta.tie) ∧ wq.cell? ⟨w.heap.size + 1, 0, none⟩ = some (.string lo) ∧ wq.cell? ⟨w.heap.size + 1, 1, none⟩ = some (.string hi) ∧ wq.cell? ⟨w.heap.size + 2, 0, none⟩ = some (.int .i64 by_.node) ∧ wq.cell? ⟨w.heap.size + 2, 1, none⟩ = some (.int .i64 by_.life) ∧ wq.cell? ⟨w.heap.size + 2, 2, none⟩ = some (.int .i64 by_.seq) ∧ wq.cell? ⟨w.heap.size + 2, 3, none⟩ = some (.int .i64 by_.att)) ∧ (wq.cell? ⟨b1, 0, none⟩ = some (.int .i64 h1.by_.node) ∧ wq.cell? ⟨b1, 1, none⟩ = some (.int .i64 h1.by_.life) ∧ wq.cell? ⟨b1, 2, none⟩ = some (.int .i64 h1.by_.seq) ∧ wq.cell? ⟨b1, 3, none⟩ = some (.int .i64 h1.by_.att) ∧ wq.cell? ⟨b1, 4, none⟩ = some (.int .i64 h1.home) ∧ wq.cell? ⟨b1, 5, none⟩ = some (.int .i64 h1.at_.wall) ∧ wq.cell? ⟨b1, 6, none⟩ = some (.int .i64 h1.at_.tie) ∧ wq.cell? ⟨b1, 7, none⟩ = some (.bool h1.drop) ∧ wq.cell? ⟨b1, 8, none⟩ = some (.string h1.data)) ∧ (wq.cell? ⟨b2, 0, none⟩ = some (.int .i64 h1.by_.node) ∧ wq.cell? ⟨b2, 1, none⟩ = some (.int .i64 h1.by_.life) ∧ wq.cell? ⟨b2, 2, none⟩ = some (.int .i64 h1.by_.seq) ∧ wq.cell? ⟨b2, 3, none⟩ = some (.int .i64 h1.by_.att) ∧ wq.cell? ⟨b2, 4, none⟩ = some (.int .i64 h1.home) ∧ wq.cell? ⟨b2, 5, none⟩ = some (.int .i64 h1.at_.wall) ∧ wq.cell? ⟨b2, 6, none⟩ = some (.int .i64 h1.at_.tie) ∧ wq.cell? ⟨b2, 7, none⟩ = some (.bool h1.drop) ∧ wq.cell? ⟨b2, 8, none⟩ = some (.string h1.data)) ∧ (wq.cell? ⟨b3, 0, none⟩ = some (.int .i64 h2.by_.node) ∧ wq.cell? ⟨b3, 1, none⟩ = some (.int .i64 h2.by_.life) ∧ wq.cell? ⟨b3, 2, none⟩ = some (.int .i64 h2.by_.seq) ∧ wq.cell? ⟨b3, 3, none⟩ = some (.int .i64 h2.by_.att) ∧ wq.cell? ⟨b3, 4, none⟩ = some (.int .i64 h2.home) ∧ wq.cell? ⟨b3, 5, none⟩ = some (.int .i64 h2.at_.wall) ∧ wq.cell? ⟨b3, 6, none⟩ = some (.int .i64 h2.at_.tie) ∧ wq.cell? ⟨b3, 7, none⟩ = some (.bool h2.drop) ∧ wq.cell? ⟨b3, 8, none⟩ = some (.string h2.data)) ∧ (wq.cell? ⟨b4, 0, none⟩ = some (.int .i64 h2.by_.node) ∧ wq.cell? ⟨b4, 1, none⟩ = some (.int .i64 h2.by_.life) ∧ wq.cell? ⟨b4, 2, none⟩ = some (.int .i64 h2.by_.seq) ∧ wq.cell? ⟨b4, 3, none⟩ = some (.int .i64 h2.by_.att) ∧ wq.cell? ⟨b4, 4, none⟩ = some (.int .i64 h2.home) ∧ wq.cell? ⟨b4, 5, none⟩ = some (.int .i64 h2.at_.wall) ∧ wq.cell? ⟨b4, 6, none⟩ = some (.int .i64 h2.at_.tie) ∧ wq.cell? ⟨b4, 7, none⟩ = some (.bool h2.drop) ∧ wq.cell? ⟨b4, 8, none⟩ = some (.string h2.data))) := fun wq hq => by
      have c1 := kb1.below (((((((((hY5.trans (hY6.mono (hY5).size)).trans (hY7.mono ((hY5.trans (hY6.mono (hY5).size))).size)).trans (hY8.mono (((hY5.trans (hY6.mono (hY5).size)).trans (hY7.mono ((hY5.trans (hY6.mono (hY5).size))).size))).size)).trans (hY9.mono ((((hY5.trans (hY6.mono (hY5).size)).trans (hY7.mono ((hY5.trans (hY6.mono (hY5).size))).size)).trans (hY8.mono (((hY5.trans (hY6.mono (hY5).size)).trans (hY7.mono ((hY5.trans (hY6.mono (hY5).size))).size))).size))).size)).trans (hY10.mono (((((hY5.trans (hY6.mono (hY5).size)).trans (hY7.mono ((hY5.trans (hY6.mono (hY5).size))).size)).trans (hY8.mono (((hY5.trans (hY6.mono (hY5).size)).trans (hY7.mono ((hY5.trans (hY6.mono (hY5).size))).size))).size)).trans (hY9.mono ((((hY5.trans (hY6.mono (hY5).size)).trans (hY7.mono ((hY5.trans (hY6.mono (hY5).size))).size)).trans (hY8.mono (((hY5.trans (hY6.mono (hY5).size)).trans (hY7.mono ((hY5.trans (hY6.mono (hY5).size))).size))).size))).size))).size)).trans (hY11.mono ((((((hY5.trans (hY6.mono (hY5).size)).trans (hY7.mono ((hY5.trans (hY6.mono (hY5).size))).size)).trans (hY8.mono (((hY5.trans (hY6.mono (hY5).size)).trans (hY7.mono ((hY5.trans (hY6.mono (hY5).size))).size))).size)).trans (hY9.mono ((((hY5.trans (hY6.mono (hY5).size)).trans (hY7.mono ((hY5.trans (hY6.mono (hY5).size))).size)).trans (hY8.mono (((hY5.trans (hY6.mono (hY5).size)).trans (hY7.mono ((hY5.trans (hY6.mono (hY5).size))).size))).size))).size)).trans (hY10.mono (((((hY5.trans (hY6.mono (hY5).size)).trans (hY7.mono ((hY5.trans (hY6.mono (hY5).size))).size)).trans (hY8.mono (((hY5.trans (hY6.mono (hY5).size)).trans (hY7.mono ((hY5.trans (hY6.mono (hY5).size))).size))).size)).trans (hY9.mono ((((hY5.trans (hY6.mono (hY5).size)).trans (hY7.mono ((hY5.trans (hY6.mono (hY5).size))).size)).trans (hY8.mono (((hY5.trans (hY6.mono (hY5).size)).trans (hY7.mono ((hY5.trans (hY6.mono (hY5).size))).size))).size))).size))).size))).size)).trans (hY12.mono (((((((hY5.trans (hY6.mono (hY5).size)).trans (hY7.mono ((hY5.trans (hY6.mono (hY5).size))).size)).trans (hY8.mono (((hY5.trans (hY6.mono (hY5).size)).trans (hY7.mono ((hY5.trans (hY6.mono (hY5).size))).size))).size)).trans (hY9.mono ((((hY5.trans (hY6.mono (hY5).size)).trans (hY7.mono ((hY5.trans (hY6.mono (hY5).size))).size)).trans (hY8.mono (((hY5.trans (hY6.mono (hY5).size)).trans (hY7.mono ((hY5.trans (hY6.mono (hY5).size))).size))).size))).size)).trans (hY10.mono (((((hY5.trans (hY6.mono (hY5).size)).trans (hY7.mono ((hY5.trans (hY6.mono (hY5).size))).size)).trans (hY8.mono (((hY5.trans (hY6.mono (hY5).size)).trans (hY7.mono ((hY5.trans (hY6.mono (hY5).size))).size))).size)).trans (hY9.mono ((((hY5.trans (hY6.mono (hY5).size)).trans (hY7.mono ((hY5.trans (hY6.mono (hY5).size))).size)).trans (hY8.mono (((hY5.trans (hY6.mono (hY5).size)).trans (hY7.mono ((hY5.trans (hY6.mono (hY5).size))).size))).size))).size))).size)).trans (hY11.mono ((((((hY5.trans (hY6.mono (hY5).size)).trans (hY7.mono ((hY5.trans (hY6.mono (hY5).size))).size)).trans (hY8.mono (((hY5.trans (hY6.mono (hY5).size)).trans (hY7.mono ((hY5.trans (hY6.mono (hY5).size))).size))).size)).trans (hY9.mono ((((hY5.trans (hY6.mono (hY5).size)).trans (hY7.mono ((hY5.trans (hY6.mono (hY5).size))).size)).trans (hY8.mono (((hY5.trans (hY6.mono (hY5).size)).trans (hY7.mono ((hY5.trans (hY6.mono (hY5).size))).size))).size))).size)).trans (hY10.mono (((((hY5.trans (hY6.mono (hY5).size)).trans (hY7.mono ((hY5.trans (hY6.mono (hY5).size))).size)).trans (hY8.mono (((hY5.trans (hY6.mono (hY5).size)).trans (hY7.mono ((hY5.trans (hY6.mono (hY5).size))).size))).size)).trans (hY9.mono ((((hY5.trans (hY6.mono (hY5).size)).trans (hY7.mono ((hY5.trans (hY6.mono (hY5).size))).size)).trans (hY8.mono (((hY5.trans (hY6.mono (hY5).size)).trans (hY7.mono ((hY5.trans (hY6.mono (hY5).size))).size))).size))).size))).size))).size))).size))).trans (hq.mono ((((((((hY5.trans (hY6.mono (hY5).size)).trans (hY7.mono ((hY5.trans (hY6.mono (hY5).size))).size)).trans (hY8.mono (((hY5.trans (hY6.mono (hY5).size)).trans (hY7.mono ((hY5.trans (hY6.mono (hY5).size))).size))).size)).trans (hY9.mono ((((hY5.trans (hY6.mono (hY5).size)).trans (hY7.mono ((hY5.trans (hY6.mono (hY5).size))).size)).trans (hY8.mono (((hY5.trans (hY6.mono (hY5).size)).trans (hY7.mono ((hY5.trans (hY6.mono (hY5).size))).size))).size))).size)).trans (hY10.mono (((((hY5.trans (hY6.mono (hY5).size)).trans (hY7.mono ((hY5.trans (hY6.mono (hY5).size))).size)).trans (hY8.mono (((hY5.trans (hY6.mono (hY5).size)).trans (hY7.mono ((hY5.trans (hY6.mono (hY5).size))).size))).size)).trans (hY9.mono ((((hY5.trans (hY6.mono (hY5).size)).trans (hY7.mono ((hY5.trans (hY6.mono (hY5).size))).size)).trans (hY8.mono (((hY5.trans (hY6.mono (hY5).size)).trans (hY7.mono ((hY5.trans (hY6.mono (hY5).size))).size))).size))).size))).size)).trans (hY11.mono ((((((hY5.trans (hY6.mono (hY5).size)).trans (hY7.mono ((hY5.trans (hY6.mono (hY5).size))).size)).trans (hY8.mono (((hY5.trans (hY6.mono (hY5).size)).trans (hY7.mono ((hY5.trans (hY6.mono (hY5).size))).size))).size)).trans (hY9.mono ((((hY5.trans (hY6.mono (hY5).size)).trans (hY7.mono ((hY5.trans (hY6.mono (hY5).size))).size)).trans (hY8.mono (((hY5.trans (hY6.mono (hY5).size)).trans (hY7.mono ((hY5.trans (hY6.mono (hY5).size))).size))).size))).size)).trans (hY10.mono (((((hY5.trans (hY6.mono (hY5).size)).trans (hY7.mono ((hY5.trans (hY6.mono (hY5).size))).size)).trans (hY8.mono (((hY5.trans (hY6.mono (hY5).size)).trans (hY7.mono ((hY5.trans (hY6.mono (hY5).size))).size))).size)).trans (hY9.mono ((((hY5.trans (hY6.mono (hY5).size)).trans (hY7.mono ((hY5.trans (hY6.mono (hY5).size))).size)).trans (hY8.mono (((hY5.trans (hY6.mono (hY5).size)).trans (hY7.mono ((hY5.trans (hY6.mono (hY5).size))).size))).size))).size))).size))).size)).trans (hY12.mono (((((((hY5.trans (hY6.mono (hY5).size)).trans (hY7.mono ((hY5.trans (hY6.mono (hY5).size))).size)).trans (hY8.mono (((hY5.trans (hY6.mono (hY5).size)).trans (hY7.mono ((hY5.trans (hY6.mono (hY5).size))).size))).size)).trans (hY9.mono ((((hY5.trans (hY6.mono (hY5).size)).trans (hY7.mono ((hY5.trans (hY6.mono (hY5).size))).size)).trans (hY8.mono (((hY5.trans (hY6.mono (hY5).size)).trans (hY7.mono ((hY5.trans (hY6.mono (hY5).size))).size))).size))).size)).trans (hY10.mono (((((hY5.trans (hY6.mono (hY5).size)).trans (hY7.mono ((hY5.trans (hY6.mono (hY5).size))).size)).trans (hY8.mono (((hY5.trans (hY6.mono (hY5).size)).trans (hY7.mono ((hY5.trans (hY6.mono (hY5).size))).size))).size)).trans (hY9.mono ((((hY5.trans (hY6.mono (hY5).size)).trans (hY7.mono ((hY5.trans (hY6.mono (hY5).size))).size)).trans (hY8.mono (((hY5.trans (hY6.mono (hY5).size)).trans (hY7.mono ((hY5.trans (hY6.mono (hY5).size))).size))).size))).size))).size)).trans (hY11.mono ((((((hY5.trans (hY6.mono (hY5).size)).trans (hY7.mono ((hY5.trans (hY6.mono (hY5).size))).size)).trans (hY8.mono (((hY5.trans (hY6.mono (hY5).size)).trans (hY7.mono ((hY5.trans (hY6.mono (hY5).size))).size))).size)).trans (hY9.mono ((((hY5.trans (hY6.mono (hY5).size)).trans (hY7.mono ((hY5.trans (hY6.mono (hY5).size))).size)).trans (hY8.mono (((hY5.trans (hY6.mono (hY5).size)).trans (hY7.mono ((hY5.trans (hY6.mono (hY5).size))).size))).size))).size)).trans (hY10.mono (((((hY5.trans (hY6.mono (hY5).size)).trans (hY7.mono ((hY5.trans (hY6.mono (hY5).size))).size)).trans (hY8.mono (((hY5.trans (hY6.mono (hY5).size)).trans (hY7.mono ((hY5.trans (hY6.mono (hY5).size))).size))).size)).trans (hY9.mono ((((hY5.trans (hY6.mono (hY5).size)).trans (hY7.mono ((hY5.trans (hY6.mono (hY5).size))).size)).trans (hY8.mono (((hY5.trans (hY6.mono (hY5).size)).trans (hY7.mono ((hY5.trans (hY6.mono (hY5).size))).size))).size))).size))).size))).size))).size))).size)) kb1.lt
      have c2 := kb2.below (((((((hY7.trans (hY8.mono (hY7).size)).trans (hY9.mono ((hY7.trans (hY8.mono (hY7).size))).size)).trans (hY10.mono (((hY7.trans (hY8.mono (hY7).size)).trans (hY9.mono ((hY7.trans (hY8.mono (hY7).size))).size))).size)).trans (hY11.mono ((((hY7.trans (hY8.mono (hY7).size)).trans (hY9.mono ((hY7.trans (hY8.mono (hY7).size))).size)).trans (hY10.mono (((hY7.trans (hY8.mono (hY7).size)).trans (hY9.mono ((hY7.trans (hY8.mono (hY7).size))).size))).size))).size)).trans (hY12.mono (((((hY7.trans (hY8.mono (hY7).size)).trans (hY9.mono ((hY7.trans (hY8.mono (hY7).size))).size)).trans (hY10.mono (((hY7.trans (hY8.mono (hY7).size)).trans (hY9.mono ((hY7.trans (hY8.mono (hY7).size))).size))).size)).trans (hY11.mono ((((hY7.trans (hY8.mono (hY7).size)).trans (hY9.mono ((hY7.trans (hY8.mono (hY7).size))).size)).trans (hY10.mono (((hY7.trans (hY8.mono (hY7).size)).trans (hY9.mono ((hY7.trans (hY8.mono (hY7).size))).size))).size))).size))).size))).trans (hq.mono ((((((hY7.trans (hY8.mono (hY7).size)).trans (hY9.mono ((hY7.trans (hY8.mono (hY7).size))).size)).trans (hY10.mono (((hY7.trans (hY8.mono (hY7).size)).trans (hY9.mono ((hY7.trans (hY8.mono (hY7).size))).size))).size)).trans (hY11.mono ((((hY7.trans (hY8.mono (hY7).size)).trans (hY9.mono ((hY7.trans (hY8.mono (hY7).size))).size)).trans (hY10.mono (((hY7.trans (hY8.mono (hY7).size)).trans (hY9.mono ((hY7.trans (hY8.mono (hY7).size))).size))).size))).size)).trans (hY12.mono (((((hY7.trans (hY8.mono (hY7).size)).trans (hY9.mono ((hY7.trans (hY8.mono (hY7).size))).size)).trans (hY10.mono (((hY7.trans (hY8.mono (hY7).size)).trans (hY9.mono ((hY7.trans (hY8.mono (hY7).size))).size))).size)).trans (hY11.mono ((((hY7.trans (hY8.mono (hY7).size)).trans (hY9.mono ((hY7.trans (hY8.mono (hY7).size))).size)).trans (hY10.mono (((hY7.trans (hY8.mono (hY7).size)).trans (hY9.mono ((hY7.trans (hY8.mono (hY7).size))).size))).size))).size))).size))).size)) kb2.lt
      have c3 := kb3.below (((hY11.trans (hY12.mono (hY11).size))).trans (hq.mono ((hY11.trans (hY12.mono (hY11).size))).size)) kb3.lt
      have c4 := kb4.below hq kb4.lt
      have h := HS.out _ (q12.trans (hq.mono q12.size))
      exact ⟨h, blk9 c1, blk9 c2, blk9 c3, blk9 c4⟩
    have p0 : Below y12.heap.size y12 y12.drew := (Below.refl _ _).drew
    have HC9 := Lib.hid (fun wq (hq : Below y12.heap.size y12 wq) => B0.out _ (q12.trans (hq.mono q12.size)))
    clear kb1 kb2 kb3 kb4 hNL
    refine wp_region_held_drew (S := fun wq => (wq.cell? ⟨w.heap.size, 0, none⟩ = some (.int .i64 ta.wall) ∧ wq.cell? ⟨w.heap.size, 1, none⟩ = some (.int .i64 ta.tie) ∧ wq.cell? ⟨w.heap.size + 1, 0, none⟩ = some (.string lo) ∧ wq.cell? ⟨w.heap.size + 1, 1, none⟩ = some (.string hi) ∧ wq.cell? ⟨w.heap.size + 2, 0, none⟩ = some (.int .i64 by_.node) ∧ wq.cell? ⟨w.heap.size + 2, 1, none⟩ = some (.int .i64 by_.life) ∧ wq.cell? ⟨w.heap.size + 2, 2, none⟩ = some (.int .i64 by_.seq) ∧ wq.cell? ⟨w.heap.size + 2, 3, none⟩ = some (.int .i64 by_.att)) ∧ (wq.cell? ⟨b1, 0, none⟩ = some (.int .i64 h1.by_.node) ∧ wq.cell? ⟨b1, 1, none⟩ = some (.int .i64 h1.by_.life) ∧ wq.cell? ⟨b1, 2, none⟩ = some (.int .i64 h1.by_.seq) ∧ wq.cell? ⟨b1, 3, none⟩ = some (.int .i64 h1.by_.att) ∧ wq.cell? ⟨b1, 4, none⟩ = some (.int .i64 h1.home) ∧ wq.cell? ⟨b1, 5, none⟩ = some (.int .i64 h1.at_.wall) ∧ wq.cell? ⟨b1, 6, none⟩ = some (.int .i64 h1.at_.tie) ∧ wq.cell? ⟨b1, 7, none⟩ = some (.bool h1.drop) ∧ wq.cell? ⟨b1, 8, none⟩ = some (.string h1.data)) ∧ (wq.cell? ⟨b2, 0, none⟩ = some (.int .i64 h1.by_.node) ∧ wq.cell? ⟨b2, 1, none⟩ = some (.int .i64 h1.by_.life) ∧ wq.cell? ⟨b2, 2, none⟩ = some (.int .i64 h1.by_.seq) ∧ wq.cell? ⟨b2, 3, none⟩ = some (.int .i64 h1.by_.att) ∧ wq.cell? ⟨b2, 4, none⟩ = some (.int .i64 h1.home) ∧ wq.cell? ⟨b2, 5, none⟩ = some (.int .i64 h1.at_.wall) ∧ wq.cell? ⟨b2, 6, none⟩ = some (.int .i64 h1.at_.tie) ∧ wq.cell? ⟨b2, 7, none⟩ = some (.bool h1.drop) ∧ wq.cell? ⟨b2, 8, none⟩ = some (.string h1.data)) ∧ (wq.cell? ⟨b3, 0, none⟩ = some (.int .i64 h2.by_.node) ∧ wq.cell? ⟨b3, 1, none⟩ = some (.int .i64 h2.by_.life) ∧ wq.cell? ⟨b3, 2, none⟩ = some (.int .i64 h2.by_.seq) ∧ wq.cell? ⟨b3, 3, none⟩ = some (.int .i64 h2.by_.att) ∧ wq.cell? ⟨b3, 4, none⟩ = some (.int .i64 h2.home) ∧ wq.cell? ⟨b3, 5, none⟩ = some (.int .i64 h2.at_.wall) ∧ wq.cell? ⟨b3, 6, none⟩ = some (.int .i64 h2.at_.tie) ∧ wq.cell? ⟨b3, 7, none⟩ = some (.bool h2.drop) ∧ wq.cell? ⟨b3, 8, none⟩ = some (.string h2.data)) ∧ (wq.cell? ⟨b4, 0, none⟩ = some (.int .i64 h2.by_.node) ∧ wq.cell? ⟨b4, 1, none⟩ = some (.int .i64 h2.by_.life) ∧ wq.cell? ⟨b4, 2, none⟩ = some (.int .i64 h2.by_.seq) ∧ wq.cell? ⟨b4, 3, none⟩ = some (.int .i64 h2.by_.att) ∧ wq.cell? ⟨b4, 4, none⟩ = some (.int .i64 h2.home) ∧ wq.cell? ⟨b4, 5, none⟩ = some (.int .i64 h2.at_.wall) ∧ wq.cell? ⟨b4, 6, none⟩ = some (.int .i64 h2.at_.tie) ∧ wq.cell? ⟨b4, 7, none⟩ = some (.bool h2.drop) ∧ wq.cell? ⟨b4, 8, none⟩ = some (.string h2.data))) (by kernel_rfl) ?s_0 (fun hHeld => ?_)
    case s_0 => exact HS9.out _ p0
    refine tk 0 { dst := some 86, op := .move (.tmp 13), type := 9, pos := "law.go:83", after := #[], guard := none } _ ?_
    try simp only [Act.put, List.setIfInBounds_toArray, List.set_cons_zero, List.set_cons_succ]
    refine tk 1 { dst := some 87, op := .move (.tmp 15), type := 9, pos := "law.go:83", after := #[], guard := none } _ ?_
    try simp only [Act.put, List.setIfInBounds_toArray, List.set_cons_zero, List.set_cons_succ]
    refine tk 2 { dst := some 88, op := .binOp .neq 9 (.tmp 86) (.tmp 87) 9, type := 4, pos := "law.go:83", after := #[{ on := 0, ground := .data }, { on := 1, ground := .data }], guard := none } _ ?_
    try simp only [Act.put, List.setIfInBounds_toArray, List.set_cons_zero, List.set_cons_succ]
    refine tk 3 { dst := some 89, op := .move (.tmp 88), type := 4, pos := "law.go:83", after := #[{ on := 2, ground := .data }], guard := none } _ ?_
    try simp only [Act.put, List.setIfInBounds_toArray, List.set_cons_zero, List.set_cons_succ]
    refine tk 4 { dst := some 90, op := .move (.tmp 14), type := 4, pos := "law.go:83", after := #[{ on := 3, ground := .guard }], guard := some (3, false) } _ ?_
    try simp only [Act.put, List.setIfInBounds_toArray, List.set_cons_zero, List.set_cons_succ]
    refine tk 5 { dst := some 91, op := .move (.tmp 16), type := 4, pos := "law.go:83", after := #[{ on := 3, ground := .guard }], guard := some (3, false) } _ ?_
    try simp only [Act.put, List.setIfInBounds_toArray, List.set_cons_zero, List.set_cons_succ]
    refine tk 6 { dst := some 92, op := .binOp .neq 4 (.tmp 90) (.tmp 91) 4, type := 4, pos := "law.go:83", after := #[{ on := 4, ground := .data }, { on := 5, ground := .data }, { on := 3, ground := .guard }], guard := some (3, false) } _ ?_
    try simp only [Act.put, List.setIfInBounds_toArray, List.set_cons_zero, List.set_cons_succ]
    refine tk 7 { dst := some 93, op := .pick (.tmp 89) (.const (.bool true)) (.tmp 92), type := 4, pos := "law.go:83", after := #[{ on := 3, ground := .data }, { on := 6, ground := .data }], guard := none } _ ?_
    try simp only [Act.put, List.setIfInBounds_toArray, List.set_cons_zero, List.set_cons_succ]
    refine tk 8 { dst := some 94, op := .move (.tmp 93), type := 4, pos := "law.go:83", after := #[{ on := 7, ground := .data }, { on := 3, ground := .chain }], guard := none } _ ?_
    try simp only [Act.put, List.setIfInBounds_toArray, List.set_cons_zero, List.set_cons_succ]
    refine tk 9 { dst := some 95, op := .load 38 (.tmp 17), type := 38, pos := "law.go:83", after := #[{ on := 8, ground := .guard }], guard := some (8, false) } _ ?_
    try simp only [Act.put, List.setIfInBounds_toArray, List.set_cons_zero, List.set_cons_succ]
    refine tk 10 { dst := some 96, op := .load 38 (.tmp 19), type := 38, pos := "law.go:83", after := #[{ on := 8, ground := .guard }], guard := some (8, false) } _ ?_
    try simp only [Act.put, List.setIfInBounds_toArray, List.set_cons_zero, List.set_cons_succ]
    refine tk 11 { dst := some 97, op := .binOp .neq 38 (.tmp 95) (.tmp 96) 38, type := 4, pos := "law.go:83", after := #[{ on := 9, ground := .data }, { on := 10, ground := .data }, { on := 8, ground := .guard }], guard := some (8, false) } _ ?_
    try simp only [Act.put, List.setIfInBounds_toArray, List.set_cons_zero, List.set_cons_succ]
    refine tk 12 { dst := some 98, op := .pick (.tmp 94) (.const (.bool true)) (.tmp 97), type := 4, pos := "law.go:83", after := #[{ on := 8, ground := .data }, { on := 11, ground := .data }], guard := none } _ ?_
    try simp only [Act.put, List.setIfInBounds_toArray, List.set_cons_zero, List.set_cons_succ]
    refine tk 13 { dst := some 99, op := .move (.tmp 98), type := 4, pos := "law.go:83", after := #[{ on := 12, ground := .data }, { on := 8, ground := .chain }], guard := none } _ ?_
    try simp only [Act.put, List.setIfInBounds_toArray, List.set_cons_zero, List.set_cons_succ]
    refine tk 14 { dst := some 100, op := .move (.tmp 18), type := 4, pos := "law.go:83", after := #[{ on := 13, ground := .guard }], guard := some (13, false) } _ ?_
    try simp only [Act.put, List.setIfInBounds_toArray, List.set_cons_zero, List.set_cons_succ]
    refine tk 15 { dst := some 101, op := .move (.tmp 20), type := 4, pos := "law.go:83", after := #[{ on := 13, ground := .guard }], guard := some (13, false) } _ ?_
    try simp only [Act.put, List.setIfInBounds_toArray, List.set_cons_zero, List.set_cons_succ]
    refine tk 16 { dst := some 102, op := .binOp .neq 4 (.tmp 100) (.tmp 101) 4, type := 4, pos := "law.go:83", after := #[{ on := 14, ground := .data }, { on := 15, ground := .data }, { on := 13, ground := .guard }], guard := some (13, false) } _ ?_
    try simp only [Act.put, List.setIfInBounds_toArray, List.set_cons_zero, List.set_cons_succ]
    refine tk 17 { dst := some 103, op := .pick (.tmp 99) (.const (.bool true)) (.tmp 102), type := 4, pos := "law.go:83", after := #[{ on := 13, ground := .data }, { on := 16, ground := .data }], guard := none } _ ?_
    try simp only [Act.put, List.setIfInBounds_toArray, List.set_cons_zero, List.set_cons_succ]
    refine tk 18 { dst := some 104, op := .move (.tmp 103), type := 4, pos := "law.go:83", after := #[{ on := 17, ground := .data }, { on := 13, ground := .chain }], guard := none } _ ?_
    try simp only [Act.put, List.setIfInBounds_toArray, List.set_cons_zero, List.set_cons_succ]
    refine tk 19 { dst := some 105, op := .move (.tmp 22), type := 54, pos := "law.go:83", after := #[{ on := 18, ground := .guard }], guard := some (18, false) } _ ?_
    try simp only [Act.put, List.setIfInBounds_toArray, List.set_cons_zero, List.set_cons_succ]
    refine tk 20 { dst := some 106, op := .move (.tmp 24), type := 54, pos := "law.go:83", after := #[{ on := 18, ground := .guard }], guard := some (18, false) } _ ?_
    try simp only [Act.put, List.setIfInBounds_toArray, List.set_cons_zero, List.set_cons_succ]
    refine tk 21 { dst := some 107, op := .binOp .neq 54 (.tmp 105) (.tmp 106) 54, type := 4, pos := "law.go:83", after := #[{ on := 19, ground := .data }, { on := 20, ground := .data }, { on := 18, ground := .guard }], guard := some (18, false) } _ ?_
    try simp only [Act.put, List.setIfInBounds_toArray, List.set_cons_zero, List.set_cons_succ]
    refine tk 22 { dst := some 108, op := .pick (.tmp 104) (.const (.bool true)) (.tmp 107), type := 4, pos := "law.go:83", after := #[{ on := 18, ground := .data }, { on := 21, ground := .data }], guard := none } _ ?_
    try simp only [Act.put, List.setIfInBounds_toArray, List.set_cons_zero, List.set_cons_succ]
    refine tk 23 { dst := some 109, op := .move (.tmp 108), type := 4, pos := "law.go:83", after := #[{ on := 22, ground := .data }, { on := 18, ground := .chain }], guard := none } _ ?_
    try simp only [Act.put, List.setIfInBounds_toArray, List.set_cons_zero, List.set_cons_succ]
    refine tk 24 { dst := some 110, op := .load 38 (.tmp 25), type := 38, pos := "law.go:83", after := #[{ on := 23, ground := .guard }], guard := some (23, false) } _ ?_
    try simp only [Act.put, List.setIfInBounds_toArray, List.set_cons_zero, List.set_cons_succ]
    refine tk 25 { dst := some 111, op := .load 38 (.tmp 27), type := 38, pos := "law.go:83", after := #[{ on := 23, ground := .guard }], guard := some (23, false) } _ ?_
    try simp only [Act.put, List.setIfInBounds_toArray, List.set_cons_zero, List.set_cons_succ]
    refine tk 26 { dst := some 112, op := .binOp .neq 38 (.tmp 110) (.tmp 111) 38, type := 4, pos := "law.go:83", after := #[{ on := 24, ground := .data }, { on := 25, ground := .data }, { on := 23, ground := .guard }], guard := some (23, false) } _ ?_
    try simp only [Act.put, List.setIfInBounds_toArray, List.set_cons_zero, List.set_cons_succ]
    refine tk 27 { dst := some 113, op := .pick (.tmp 109) (.const (.bool true)) (.tmp 112), type := 4, pos := "law.go:83", after := #[{ on := 23, ground := .data }, { on := 26, ground := .data }], guard := none } _ ?_
    try simp only [Act.put, List.setIfInBounds_toArray, List.set_cons_zero, List.set_cons_succ]
    refine tk 28 { dst := some 114, op := .move (.tmp 113), type := 4, pos := "law.go:83", after := #[{ on := 27, ground := .data }, { on := 23, ground := .chain }], guard := none } _ ?_
    try simp only [Act.put, List.setIfInBounds_toArray, List.set_cons_zero, List.set_cons_succ]
    refine tk 29 { dst := some 115, op := .move (.tmp 26), type := 4, pos := "law.go:83", after := #[{ on := 28, ground := .guard }], guard := some (28, false) } _ ?_
    try simp only [Act.put, List.setIfInBounds_toArray, List.set_cons_zero, List.set_cons_succ]
    refine tk 30 { dst := some 116, op := .move (.tmp 28), type := 4, pos := "law.go:83", after := #[{ on := 28, ground := .guard }], guard := some (28, false) } _ ?_
    try simp only [Act.put, List.setIfInBounds_toArray, List.set_cons_zero, List.set_cons_succ]
    refine tk 31 { dst := some 117, op := .binOp .neq 4 (.tmp 115) (.tmp 116) 4, type := 4, pos := "law.go:83", after := #[{ on := 29, ground := .data }, { on := 30, ground := .data }, { on := 28, ground := .guard }], guard := some (28, false) } _ ?_
    try simp only [Act.put, List.setIfInBounds_toArray, List.set_cons_zero, List.set_cons_succ]
    refine tk 32 { dst := some 118, op := .pick (.tmp 114) (.const (.bool true)) (.tmp 117), type := 4, pos := "law.go:83", after := #[{ on := 28, ground := .data }, { on := 31, ground := .data }], guard := none } _ ?_
    try simp only [Act.put, List.setIfInBounds_toArray, List.set_cons_zero, List.set_cons_succ]
    refine tk 33 { dst := some 119, op := .move (.tmp 118), type := 4, pos := "law.go:83", after := #[{ on := 32, ground := .data }, { on := 28, ground := .chain }], guard := none } _ ?_
    try simp only [Act.put, List.setIfInBounds_toArray, List.set_cons_zero, List.set_cons_succ]
    refine tk 34 { dst := some 120, op := .move (.tmp 21), type := 53, pos := "law.go:83", after := #[{ on := 33, ground := .guard }], guard := some (33, false) } _ ?_
    try simp only [Act.put, List.setIfInBounds_toArray, List.set_cons_zero, List.set_cons_succ]
    refine tk 35 { dst := some 121, op := .call { callee := .builtin .len, args := #[.tmp 120], argTypes := #[53] }, type := 3, pos := "law.go:83", after := #[{ on := 34, ground := .data }, { on := 33, ground := .guard }], guard := some (33, false) } _ ?_
    try simp only [Act.put, List.setIfInBounds_toArray, List.set_cons_zero, List.set_cons_succ]
    refine tk 36 { dst := some 122, op := .move (.tmp 23), type := 53, pos := "law.go:83", after := #[{ on := 33, ground := .guard }], guard := some (33, false) } _ ?_
    try simp only [Act.put, List.setIfInBounds_toArray, List.set_cons_zero, List.set_cons_succ]
    refine tk 37 { dst := some 123, op := .call { callee := .builtin .len, args := #[.tmp 122], argTypes := #[53] }, type := 3, pos := "law.go:83", after := #[{ on := 36, ground := .data }, { on := 33, ground := .guard }], guard := some (33, false) } _ ?_
    try simp only [Act.put, List.setIfInBounds_toArray, List.set_cons_zero, List.set_cons_succ]
    refine tk 38 { dst := some 124, op := .binOp .neq 3 (.tmp 121) (.tmp 123) 3, type := 4, pos := "law.go:83", after := #[{ on := 35, ground := .data }, { on := 37, ground := .data }, { on := 33, ground := .guard }], guard := some (33, false) } _ ?_
    try simp only [Act.put, List.setIfInBounds_toArray, List.set_cons_zero, List.set_cons_succ]
    refine tk 39 { dst := some 125, op := .pick (.tmp 119) (.const (.bool true)) (.tmp 124), type := 4, pos := "law.go:83", after := #[{ on := 33, ground := .data }, { on := 38, ground := .data }], guard := none } _ ?_
    try simp only [Act.put, List.setIfInBounds_toArray, List.set_cons_zero, List.set_cons_succ]
    refine tk 40 { dst := some 126, op := .move (.tmp 125), type := 4, pos := "law.go:83", after := #[{ on := 39, ground := .data }, { on := 33, ground := .chain }], guard := none } _ ?_
    try simp only [Act.put, List.setIfInBounds_toArray, List.set_cons_zero, List.set_cons_succ]
    refine tk 41 { dst := some 127, op := .move (.tmp 0), type := 31, pos := "law.go:83", after := #[{ on := 40, ground := .guard }], guard := some (40, false) } _ ?_
    try simp only [Act.put, List.setIfInBounds_toArray, List.set_cons_zero, List.set_cons_succ]
    refine tk 42 { dst := some 128, op := .load 28 (.tmp 10), type := 28, pos := "law.go:83", after := #[{ on := 40, ground := .guard }], guard := some (40, false) } _ ?_
    try simp only [Act.put, List.setIfInBounds_toArray, List.set_cons_zero, List.set_cons_succ]
    refine tk 44 { dst := some 130, op := .move (.tmp 0), type := 31, pos := "law.go:83", after := #[{ on := 40, ground := .guard }], guard := some (40, false) } _ ?_
    try simp only [Act.put, List.setIfInBounds_toArray, List.set_cons_zero, List.set_cons_succ]
    refine tk 45 { dst := some 131, op := .load 28 (.tmp 10), type := 28, pos := "law.go:83", after := #[{ on := 40, ground := .guard }], guard := some (40, false) } _ ?_
    try simp only [Act.put, List.setIfInBounds_toArray, List.set_cons_zero, List.set_cons_succ]
    refine wpAnyH_ready (rs := [43]) (by kernel_rfl) (by simp) ?_
    refine AllReadyH.cons (o := { dst := some 129, op := .call { callee := .value (.func 23), args := #[.tmp 127, .tmp 128], argTypes := #[31, 28] }, type := 4, pos := "law.go:83", after := #[{ on := 41, ground := .data }, { on := 42, ground := .data }, { on := 40, ground := .chain }, { on := 40, ground := .guard }], guard := some (40, false) }) rfl (fun KQ hKQ => ?_) AllReadyH.nil
    go_simp
    refine (M1.out _ (HC9.out _ p0)).mono ?_
    rintro e z1 ⟨rfl, hZ1⟩
    have p1 := p0.trans (hZ1.mono p0.size)
    have r1 := HS9.out _ p1
    go_wp2_with fail
    refine hKQ.out _ _ ?s_43 (fun hHeld43 => ?_)
    case s_43 => exact r1
    clear hKQ KQ
    try simp only [Act.put, List.setIfInBounds_toArray, List.set_cons_zero, List.set_cons_succ]
    refine wpAnyH_ready (rs := [46]) (by kernel_rfl) (by simp) ?_
    refine AllReadyH.cons (o := { dst := some 132, op := .call { callee := .value (.func 37), args := #[.tmp 130, .tmp 131], argTypes := #[31, 28] }, type := 4, pos := "law.go:83", after := #[{ on := 44, ground := .data }, { on := 45, ground := .data }, { on := 43, ground := .chain }, { on := 40, ground := .guard }], guard := some (40, false) }) rfl (fun KQ hKQ => ?_) AllReadyH.nil
    go_simp
    refine (M2.out _ (HC9.out _ p1)).mono ?_
    rintro e z2 ⟨rfl, hZ2⟩
    have p2 := p1.trans (hZ2.mono p1.size)
    have r2 := HS9.out _ p2
    go_wp2_with fail
    refine hKQ.out _ _ ?s_46 (fun hHeld46 => ?_)
    case s_46 => exact r2
    clear hKQ KQ
    try simp only [Act.put, List.setIfInBounds_toArray, List.set_cons_zero, List.set_cons_succ]
    refine tk 47 { dst := some 133, op := .binOp .neq 4 (.tmp 129) (.tmp 132) 4, type := 4, pos := "law.go:83", after := #[{ on := 43, ground := .data }, { on := 46, ground := .data }, { on := 40, ground := .guard }], guard := some (40, false) } _ ?_
    try simp only [Act.put, List.setIfInBounds_toArray, List.set_cons_zero, List.set_cons_succ]
    refine tk 48 { dst := some 134, op := .pick (.tmp 126) (.const (.bool true)) (.tmp 133), type := 4, pos := "law.go:83", after := #[{ on := 40, ground := .data }, { on := 47, ground := .data }], guard := none } _ ?_
    try simp only [Act.put, List.setIfInBounds_toArray, List.set_cons_zero, List.set_cons_succ]
    refine tk 49 { dst := some 135, op := .move (.tmp 134), type := 4, pos := "law.go:83", after := #[{ on := 48, ground := .data }, { on := 46, ground := .chain }], guard := none } _ ?_
    try simp only [Act.put, List.setIfInBounds_toArray, List.set_cons_zero, List.set_cons_succ]
    refine tk 50 { dst := some 136, op := .move (.tmp 0), type := 31, pos := "law.go:83", after := #[{ on := 49, ground := .guard }], guard := some (49, false) } _ ?_
    try simp only [Act.put, List.setIfInBounds_toArray, List.set_cons_zero, List.set_cons_succ]
    refine tk 52 { dst := some 138, op := .move (.tmp 0), type := 31, pos := "law.go:83", after := #[{ on := 49, ground := .guard }], guard := some (49, false) } _ ?_
    try simp only [Act.put, List.setIfInBounds_toArray, List.set_cons_zero, List.set_cons_succ]
    refine wpAnyH_ready (rs := [51]) (by kernel_rfl) (by simp) ?_
    refine AllReadyH.cons (o := { dst := some 137, op := .call { callee := .value (.func 19), args := #[.tmp 136], argTypes := #[31] }, type := 4, pos := "law.go:83", after := #[{ on := 50, ground := .data }, { on := 49, ground := .chain }, { on := 49, ground := .guard }], guard := some (49, false) }) rfl (fun KQ hKQ => ?_) AllReadyH.nil
    go_simp
    refine (Y1.out _ (HC9.out _ p2)).mono ?_
    rintro e z3 ⟨rfl, hZ3⟩
    have p3 := p2.trans (hZ3.mono p2.size)
    have r3 := HS9.out _ p3
    go_wp2_with fail
    refine hKQ.out _ _ ?s_51 (fun hHeld51 => ?_)
    case s_51 => exact r3
    clear hKQ KQ
    try simp only [Act.put, List.setIfInBounds_toArray, List.set_cons_zero, List.set_cons_succ]
    refine wpAnyH_ready (rs := [53]) (by kernel_rfl) (by simp) ?_
    refine AllReadyH.cons (o := { dst := some 139, op := .call { callee := .value (.func 18), args := #[.tmp 138], argTypes := #[31] }, type := 4, pos := "law.go:83", after := #[{ on := 52, ground := .data }, { on := 51, ground := .chain }, { on := 49, ground := .guard }], guard := some (49, false) }) rfl (fun KQ hKQ => ?_) AllReadyH.nil
    go_simp
    refine (Y2.out _ (HC9.out _ p3)).mono ?_
    rintro e z4 ⟨rfl, hZ4⟩
    have p4 := p3.trans (hZ4.mono p3.size)
    have r4 := HS9.out _ p4
    go_wp2_with fail
    refine hKQ.out _ _ ?s_53 (fun hHeld53 => ?_)
    case s_53 => exact r4
    clear hKQ KQ
    try simp only [Act.put, List.setIfInBounds_toArray, List.set_cons_zero, List.set_cons_succ]
    refine tk 54 { dst := some 140, op := .binOp .neq 4 (.tmp 137) (.tmp 139) 4, type := 4, pos := "law.go:83", after := #[{ on := 51, ground := .data }, { on := 53, ground := .data }, { on := 49, ground := .guard }], guard := some (49, false) } _ ?_
    try simp only [Act.put, List.setIfInBounds_toArray, List.set_cons_zero, List.set_cons_succ]
    refine tk 55 { dst := some 141, op := .pick (.tmp 135) (.const (.bool true)) (.tmp 140), type := 4, pos := "law.go:83", after := #[{ on := 49, ground := .data }, { on := 54, ground := .data }], guard := none } _ ?_
    try simp only [Act.put, List.setIfInBounds_toArray, List.set_cons_zero, List.set_cons_succ]
    refine wpAnyH_done (by kernel_rfl) ?_ _
    go_wp2_with fail
    go_loopw [29] (fun iv wt => iv = .int .i64 0 ∧ Below y12.heap.size y12 wt) (fun _ _ => 0)
    case atStart => exact ⟨rfl, p4⟩
    case round =>
      obtain ⟨rfl, hBt⟩ := hrel
      go_wp2_with fail
      go_ret
      exact ⟨rfl, HC9.out _ hBt⟩
end Go.Proofs.Ytlkhmpfdajefiaa.law8
