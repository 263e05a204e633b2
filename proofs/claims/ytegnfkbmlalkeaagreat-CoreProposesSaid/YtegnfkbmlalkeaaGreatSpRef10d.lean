/- What the document's answer to conf (antipoderef10) tells of joints: what elects, what commits, where a change ends. Conditions: sets are uint16 values, numbers int. -/
import Derived.Test.YtegnfkbmlalkeaaGreatSpRef10c
set_option linter.unusedVariables false
set_option maxHeartbeats 16000000
set_option maxRecDepth 10000
namespace Go.Proofs.YtegnfkbmlalkeaaGreat.ref10
open Go Go.RowKit kit nums se cf
theorem el_ref (c : CfL) (got : Nat) : elC c got = decide (c.e ≤ cntF (meetF (joinF c.v c.w) got)) := by
 have e : cntF (got &&& votF c) = cntF (meetF (joinF c.v c.w) got) := by
  rw [cnt_meet]
  unfold joinF votF
  rw [Nat.and_assoc, Nat.and_comm 1022 got, ← Nat.and_assoc, cnt_and, Nat.and_comm]
 unfold elC; rw [e]
theorem co_ref {c : CfL} (h : mayF c.v = true) (got : Nat) : coC c got = (decide (c.k ≤ cntF (meetF (joinF c.v c.w) got)) && decide (meetF c.v got ≠ 0)) := by
 have e := el_ref { c with e := c.k } got
 unfold elC at e
 unfold coC
 rw [meet_may got h, Nat.and_comm c.v got]
 exact congrArg (· && _) e
theorem commits_any (j : JtL) (got : Nat) (w : World) (h : j.ok) (hg : got < 65536) (hm : mayJ j = true) : Calls Tryz.prog 64 #[jtV j, .int .u16 (got : Int)] w fun e w' => e = .returned (.bool (coJ j got)) ∧ Below w.heap.size w w' := by
 have HK := Lh (two_ok h)
 have CT := Lh (fun w => two_any j w)
 have HMY := Lh (two_may hm)
 have CV := Lh (fun (c : CfL) (hc : c.ok) w => votes_any c w hc)
 have CM := Lh (fun (a : Nat) (ha : a < 65536) w => ref9.meet_any a got w ha hg)
 have CC := Lh (fun (a : Nat) (ha : a < 65536) w => ref9.count_any a w ha)
 have HR : Hid (coJ j got = (twoL j).all fun c => coC c got) := both_all j _
 have h2 := two_len j
 rw [HR.out]
 clear HR h
 generalize twoL j = L at *
 obtain ⟨k, hk⟩ : ∃ k, L.length = k := ⟨_, rfl⟩
 rw [hk] at CT h2
 unfold jtV at *
 obtain ⟨⟨av, aw, al, ae, ak⟩, ⟨bv, bw, bl, be, bk⟩, t⟩ := j
 dsimp only at *
 have hB0 := (Below.refl w.heap.size w).alloc (Nat.le_refl _) (.cells #[.int .u16 (av : Int), .int .u16 (aw : Int), .int .u16 (al : Int), .int .i64 ae, .int .i64 ak, .int .u16 (bv : Int), .int .u16 (bw : Int), .int .u16 (bl : Int), .int .i64 be, .int .i64 bk, .bool t] 27)
 go_enter Tryz.func64, Tryz.ntmps64
 go_wp2_with fail
 refine (CT.out _).mono ?_
 rintro e w2 ⟨p, rfl, hp, hB2, hA⟩
 have HA := Lh hA
 have HB2 := Lh (hB0.trans (hB2.mono hB0.size))
 clear hA hB0 hB2 CT
 go_wp2_with fail
 go_loopw [6] (fun iv wr => ∃ i : Nat, i ≤ k ∧ iv = .int .i64 (i : Int) ∧ Below w2.heap.size w2 wr ∧ Hid (∀ c ∈ L.take i, (fun c => coC c got) c = true)) (fun iv _ => k - (intOf iv).toNat)
 case atStart => exact ⟨0, Nat.zero_le _, rfl, Below.refl _ _, fun c hc => by simp at hc⟩
 case round =>
  obtain ⟨i, hi, rfl, hBr, HI⟩ := hrel
  by_cases hlt : i < k
  ·
   obtain ⟨c, hc⟩ : ∃ c, L[i]? = some c := ⟨L[i]'(by omega), List.getElem?_eq_getElem _⟩
   have hok := HK.out c (List.mem_of_getElem? hc)
   have hA := HA.out i c hc
   have HC := Lh hc
   clear hc
   have cV := Lh (CV.out c hok)
   have cM := Lh (CM.out (joinF c.v c.w) (join_lt hok.1 hok.2.1))
   have cC := Lh (CC.out (meetF (joinF c.v c.w) got) (meet_lt (join_lt hok.1 hok.2.1)))
   have cZ := Lh (CM.out c.v hok.1)
   have HE := Lh (co_ref (may_parts (HMY.out c (List.mem_of_getElem? HC.out))).1 got)
   have hn9 := cntF_le (meetF (joinF c.v c.w) got)
   generalize cntF (meetF (joinF c.v c.w) got) = n at *
   generalize meetF (joinF c.v c.w) got = sm at *
   generalize joinF c.v c.w = sv at *
   generalize meetF c.v got = z at *
   have HS : Hid (∀ wq, Below wr.heap.size wr wq → (wq.cell? ⟨p, i * 5, none⟩ = some (.int .u16 (c.v : Int)) ∧ wq.cell? ⟨p, i * 5 + 1, none⟩ = some (.int .u16 (c.w : Int)) ∧ wq.cell? ⟨p, i * 5 + 2, none⟩ = some (.int .u16 (c.l : Int)) ∧ wq.cell? ⟨p, i * 5 + 3, none⟩ = some (.int .i64 c.e) ∧ wq.cell? ⟨p, i * 5 + 4, none⟩ = some (.int .i64 c.k))) := fun wq hq => at5 (hA.below hp (hBr.trans (hq.mono hBr.size)))
   clear hA
   unfold cfV at *
   obtain ⟨cv, cw, cl, ce, ck⟩ := c
   dsimp only at *
   have q0 := Below.refl wr.heap.size wr
   have r0 := HS.out _ q0
   go_upto_region 5 with (fail)
   by_cases hp : ck ≤ n
   ·
    have g : decide ((n : Int) < ck) = false := decide_eq_false (by omega)
    have HP := Lh hp
    clear hp
    by_cases hz : z = 0
    ·
     have g2 : ((z : Int) == 0) = true := by rw [beq_iff_eq]; omega
     have HZ := Lh hz
     clear hz
     have q1 := q0.drew
     refine wp_region_held_drew (S := fun wq => (wq.cell? ⟨p, i * 5, none⟩ = some (.int .u16 (cv : Int)) ∧ wq.cell? ⟨p, i * 5 + 1, none⟩ = some (.int .u16 (cw : Int)) ∧ wq.cell? ⟨p, i * 5 + 2, none⟩ = some (.int .u16 (cl : Int)) ∧ wq.cell? ⟨p, i * 5 + 3, none⟩ = some (.int .i64 ce) ∧ wq.cell? ⟨p, i * 5 + 4, none⟩ = some (.int .i64 ck))) (by kernel_rfl) ?s_rco5a (fun hHeld => ?_)
     case s_rco5a => exact HS.out _ q1
     iterate 4 (refine tx 0 _ ?_; try simp only [Act.put, ka, kb, kc])
     refine tj 5 _ ?_
     try simp only [Act.put, ka, kb, kc]
     iterate 5 (refine tx 8 _ ?_; try simp only [Act.put, ka, kb, kc])
     refine rr [4] ?_
     refine rc (fun KQ hKQ => ?_) AllReadyH.nil
     go_simp
     refine (cV.out _).mono ?_
     rintro e y2 ⟨rfl, hY2⟩
     have q2 := q1.trans (hY2.mono q1.size)
     have r2 := HS.out _ q2
     go_wp2_with fail
     refine hKQ.out _ _ (r2) (fun _ => ?_)
     clear hKQ KQ
     try simp only [Act.put, ka, kb, kc]
     refine rr [6] ?_
     refine rc (fun KQ hKQ => ?_) AllReadyH.nil
     go_simp
     refine (cM.out _).mono ?_
     rintro e y3 ⟨rfl, rfl⟩
     have r3 := HS.out _ q2
     go_wp2_with fail
     refine hKQ.out _ _ (r3) (fun _ => ?_)
     clear hKQ KQ
     try simp only [Act.put, ka, kb, kc]
     refine rr [7] ?_
     refine rc (fun KQ hKQ => ?_) AllReadyH.nil
     go_simp
     refine (cC.out _).mono ?_
     rintro e y4 ⟨rfl, hY4⟩
     have q4 := q2.trans (hY4.mono q2.size)
     have r4 := HS.out _ q4
     go_wp2_with fail
     refine hKQ.out _ _ (r4) (fun _ => ?_)
     clear hKQ KQ
     try simp only [Act.put, ka, kb, kc]
     iterate 8 (refine tx 13 _ ?_; try simp only [Act.put, ka, kb, kc])
     refine rr [21] ?_
     refine rc (fun KQ hKQ => ?_) AllReadyH.nil
     go_simp
     refine (cZ.out _).mono ?_
     rintro e y5 ⟨rfl, rfl⟩
     have r5 := HS.out _ q4
     go_wp2_with fail
     refine hKQ.out _ _ (r5) (fun _ => ?_)
     clear hKQ KQ
     try simp only [Act.put, ka, kb, kc]
     iterate 2 (refine tx 22 _ ?_; try simp only [Act.put, ka, kb, kc])
     refine wpAnyH_done (by kernel_rfl) ?_ _
     go_wp2_with fail
     go_ret
     exact ⟨ref9.ret_bool (by rw [all_bad (P := fun c => coC c got) HC.out (by rw [HE.out, HZ.out]; simp)]), HB2.out.trans ((hBr.trans (q4.mono hBr.size)).mono HB2.out.size)⟩
    ·
     have g2 : ((z : Int) == 0) = false := by rw [beq_eq_false_iff_ne]; omega
     have HZ := Lh hz
     clear hz
     have q1 := q0.drew
     refine wp_region_held_drew (S := fun wq => (wq.cell? ⟨p, i * 5, none⟩ = some (.int .u16 (cv : Int)) ∧ wq.cell? ⟨p, i * 5 + 1, none⟩ = some (.int .u16 (cw : Int)) ∧ wq.cell? ⟨p, i * 5 + 2, none⟩ = some (.int .u16 (cl : Int)) ∧ wq.cell? ⟨p, i * 5 + 3, none⟩ = some (.int .i64 ce) ∧ wq.cell? ⟨p, i * 5 + 4, none⟩ = some (.int .i64 ck))) (by kernel_rfl) ?s_rco5b (fun hHeld => ?_)
     case s_rco5b => exact HS.out _ q1
     iterate 4 (refine tx 0 _ ?_; try simp only [Act.put, ka, kb, kc])
     refine tj 5 _ ?_
     try simp only [Act.put, ka, kb, kc]
     iterate 5 (refine tx 8 _ ?_; try simp only [Act.put, ka, kb, kc])
     refine rr [4] ?_
     refine rc (fun KQ hKQ => ?_) AllReadyH.nil
     go_simp
     refine (cV.out _).mono ?_
     rintro e y2 ⟨rfl, hY2⟩
     have q2 := q1.trans (hY2.mono q1.size)
     have r2 := HS.out _ q2
     go_wp2_with fail
     refine hKQ.out _ _ (r2) (fun _ => ?_)
     clear hKQ KQ
     try simp only [Act.put, ka, kb, kc]
     refine rr [6] ?_
     refine rc (fun KQ hKQ => ?_) AllReadyH.nil
     go_simp
     refine (cM.out _).mono ?_
     rintro e y3 ⟨rfl, rfl⟩
     have r3 := HS.out _ q2
     go_wp2_with fail
     refine hKQ.out _ _ (r3) (fun _ => ?_)
     clear hKQ KQ
     try simp only [Act.put, ka, kb, kc]
     refine rr [7] ?_
     refine rc (fun KQ hKQ => ?_) AllReadyH.nil
     go_simp
     refine (cC.out _).mono ?_
     rintro e y4 ⟨rfl, hY4⟩
     have q4 := q2.trans (hY4.mono q2.size)
     have r4 := HS.out _ q4
     go_wp2_with fail
     refine hKQ.out _ _ (r4) (fun _ => ?_)
     clear hKQ KQ
     try simp only [Act.put, ka, kb, kc]
     iterate 8 (refine tx 13 _ ?_; try simp only [Act.put, ka, kb, kc])
     refine rr [21] ?_
     refine rc (fun KQ hKQ => ?_) AllReadyH.nil
     go_simp
     refine (cZ.out _).mono ?_
     rintro e y5 ⟨rfl, rfl⟩
     have r5 := HS.out _ q4
     go_wp2_with fail
     refine hKQ.out _ _ (r5) (fun _ => ?_)
     clear hKQ KQ
     try simp only [Act.put, ka, kb, kc]
     iterate 2 (refine tx 22 _ ?_; try simp only [Act.put, ka, kb, kc])
     refine wpAnyH_done (by kernel_rfl) ?_ _
     go_wp2_with fail
     go_round
     case rel => exact ⟨i + 1, by omega, by go_num, hBr.trans (q4.mono hBr.size), take_more HI.out HC.out (by rw [HE.out, decide_eq_true HP.out, decide_eq_true HZ.out]; rfl)⟩
     case measure => simp [intOf]; omega
   ·
    have g : decide ((n : Int) < ck) = true := decide_eq_true (by omega)
    have HP := Lh hp
    clear hp
    have q1 := q0.drew
    refine wp_region_held_drew (S := fun wq => (wq.cell? ⟨p, i * 5, none⟩ = some (.int .u16 (cv : Int)) ∧ wq.cell? ⟨p, i * 5 + 1, none⟩ = some (.int .u16 (cw : Int)) ∧ wq.cell? ⟨p, i * 5 + 2, none⟩ = some (.int .u16 (cl : Int)) ∧ wq.cell? ⟨p, i * 5 + 3, none⟩ = some (.int .i64 ce) ∧ wq.cell? ⟨p, i * 5 + 4, none⟩ = some (.int .i64 ck))) (by kernel_rfl) ?s_rco5c (fun hHeld => ?_)
    case s_rco5c => exact HS.out _ q1
    iterate 4 (refine tx 0 _ ?_; try simp only [Act.put, ka, kb, kc])
    refine tj 5 _ ?_
    try simp only [Act.put, ka, kb, kc]
    iterate 5 (refine tx 8 _ ?_; try simp only [Act.put, ka, kb, kc])
    refine rr [4] ?_
    refine rc (fun KQ hKQ => ?_) AllReadyH.nil
    go_simp
    refine (cV.out _).mono ?_
    rintro e y2 ⟨rfl, hY2⟩
    have q2 := q1.trans (hY2.mono q1.size)
    have r2 := HS.out _ q2
    go_wp2_with fail
    refine hKQ.out _ _ (r2) (fun _ => ?_)
    clear hKQ KQ
    try simp only [Act.put, ka, kb, kc]
    refine rr [6] ?_
    refine rc (fun KQ hKQ => ?_) AllReadyH.nil
    go_simp
    refine (cM.out _).mono ?_
    rintro e y3 ⟨rfl, rfl⟩
    have r3 := HS.out _ q2
    go_wp2_with fail
    refine hKQ.out _ _ (r3) (fun _ => ?_)
    clear hKQ KQ
    try simp only [Act.put, ka, kb, kc]
    refine rr [7] ?_
    refine rc (fun KQ hKQ => ?_) AllReadyH.nil
    go_simp
    refine (cC.out _).mono ?_
    rintro e y4 ⟨rfl, hY4⟩
    have q4 := q2.trans (hY4.mono q2.size)
    have r4 := HS.out _ q4
    go_wp2_with fail
    refine hKQ.out _ _ (r4) (fun _ => ?_)
    clear hKQ KQ
    try simp only [Act.put, ka, kb, kc]
    iterate 2 (refine tx 13 _ ?_; try simp only [Act.put, ka, kb, kc])
    refine tv 15 ?_
    try simp only [Act.put, ka, kb, kc]
    refine tv 16 ?_
    try simp only [Act.put, ka, kb, kc]
    refine tv 17 ?_
    try simp only [Act.put, ka, kb, kc]
    refine tv 18 ?_
    try simp only [Act.put, ka, kb, kc]
    refine tv 19 ?_
    try simp only [Act.put, ka, kb, kc]
    refine tv 20 ?_
    try simp only [Act.put, ka, kb, kc]
    refine tv 21 ?_
    try simp only [Act.put, ka, kb, kc]
    refine tv 22 ?_
    try simp only [Act.put, ka, kb, kc]
    refine tj 23 _ ?_
    try simp only [Act.put, ka, kb, kc]
    refine wpAnyH_done (by kernel_rfl) ?_ _
    go_wp2_with fail
    go_ret
    exact ⟨ref9.ret_bool (by rw [all_bad (P := fun c => coC c got) HC.out (by rw [HE.out, decide_eq_false (by have := HP.out; omega)]; rfl)]), HB2.out.trans ((hBr.trans (q4.mono hBr.size)).mono HB2.out.size)⟩
  ·
   obtain rfl : i = k := by omega
   go_wp2_with fail
   go_ret
   exact ⟨ref9.ret_bool (by rw [all_good HI.out hk]), HB2.out.trans (hBr.mono HB2.out.size)⟩
theorem final_any (j : JtL) (w : World) : Calls Tryz.prog 149 #[jtV j] w fun e w' => e = .returned (jtV (finalJ j)) ∧ Below w.heap.size w w' := by
 unfold jtV finalJ
 obtain ⟨⟨av, aw, al, ae, ak⟩, ⟨bv, bw, bl, be, bk⟩, t⟩ := j
 dsimp only at *
 have k0 : Blk 27 ((w.alloc (.cells #[.int .u16 (av : Int), .int .u16 (aw : Int), .int .u16 (al : Int), .int .i64 ae, .int .i64 ak, .int .u16 (bv : Int), .int .u16 (bw : Int), .int .u16 (bl : Int), .int .i64 be, .int .i64 bk, .bool t] 27)).alloc (.cells #[.int .u16 0, .int .u16 0, .int .u16 0, .int .i64 0, .int .i64 0, .int .u16 0, .int .u16 0, .int .u16 0, .int .i64 0, .int .i64 0, .bool false] 27)) w.heap.size [.int .u16 (av : Int), .int .u16 (aw : Int), .int .u16 (al : Int), .int .i64 ae, .int .i64 ak, .int .u16 (bv : Int), .int .u16 (bw : Int), .int .u16 (bl : Int), .int .i64 be, .int .i64 bk, .bool t] := Blk.alloc (heap_alloc_new w _) _
 have k1 : Blk 27 ((w.alloc (.cells #[.int .u16 (av : Int), .int .u16 (aw : Int), .int .u16 (al : Int), .int .i64 ae, .int .i64 ak, .int .u16 (bv : Int), .int .u16 (bw : Int), .int .u16 (bl : Int), .int .i64 be, .int .i64 bk, .bool t] 27)).alloc (.cells #[.int .u16 0, .int .u16 0, .int .u16 0, .int .i64 0, .int .i64 0, .int .u16 0, .int .u16 0, .int .u16 0, .int .i64 0, .int .i64 0, .bool false] 27)) (w.heap.size + 1) [.int .u16 0, .int .u16 0, .int .u16 0, .int .i64 0, .int .i64 0, .int .u16 0, .int .u16 0, .int .u16 0, .int .i64 0, .int .i64 0, .bool false] := by have := heap_alloc_new (w.alloc (.cells #[.int .u16 (av : Int), .int .u16 (aw : Int), .int .u16 (al : Int), .int .i64 ae, .int .i64 ak, .int .u16 (bv : Int), .int .u16 (bw : Int), .int .u16 (bl : Int), .int .i64 be, .int .i64 bk, .bool t] 27)) (.cells #[.int .u16 0, .int .u16 0, .int .u16 0, .int .i64 0, .int .i64 0, .int .u16 0, .int .u16 0, .int .u16 0, .int .i64 0, .int .i64 0, .bool false] 27); rwa [show (w.alloc (.cells #[.int .u16 (av : Int), .int .u16 (aw : Int), .int .u16 (al : Int), .int .i64 ae, .int .i64 ak, .int .u16 (bv : Int), .int .u16 (bw : Int), .int .u16 (bl : Int), .int .i64 be, .int .i64 bk, .bool t] 27)).heap.size = w.heap.size + 1 by simp] at this
 have hB := ((Below.refl w.heap.size w).alloc (Nat.le_refl _) (.cells #[.int .u16 (av : Int), .int .u16 (aw : Int), .int .u16 (al : Int), .int .i64 ae, .int .i64 ak, .int .u16 (bv : Int), .int .u16 (bw : Int), .int .u16 (bl : Int), .int .i64 be, .int .i64 bk, .bool t] 27)).alloc (by simp) (.cells #[.int .u16 0, .int .u16 0, .int .u16 0, .int .i64 0, .int .i64 0, .int .u16 0, .int .u16 0, .int .u16 0, .int .i64 0, .int .i64 0, .bool false] 27)
 have hB1 := hB.mono (Nat.le_refl _)
 have c0 := blk11 k0
 have c1 := blk11 k1
 have df := fun i => k1.frozen i
 clear k0 hB1
 have hB2 := Lh hB
 have K1 := Lh k1
 clear k1 hB
 cases t
 ·
  go_enter Tryz.func149, Tryz.ntmps149
  go_upto_region 1 with (fail)
  generalize ((w.alloc (.cells #[.int .u16 (av : Int), .int .u16 (aw : Int), .int .u16 (al : Int), .int .i64 ae, .int .i64 ak, .int .u16 (bv : Int), .int .u16 (bw : Int), .int .u16 (bl : Int), .int .i64 be, .int .i64 bk, .bool false] 27)).alloc (.cells #[.int .u16 0, .int .u16 0, .int .u16 0, .int .i64 0, .int .i64 0, .int .u16 0, .int .u16 0, .int .u16 0, .int .i64 0, .int .i64 0, .bool false] 27)) = w1 at *
  go_wp2_with fail
  have sF := put11 (.int .u16 (av : Int)) (.int .u16 (aw : Int)) (.int .u16 (al : Int)) (.int .i64 ae) (.int .i64 ak) (.int .u16 (bv : Int)) (.int .u16 (bw : Int)) (.int .u16 (bl : Int)) (.int .i64 be) (.int .i64 bk) (.bool false) K1.out
  have bF := below11 (g := w.heap.size + 1) (.int .u16 (av : Int)) (.int .u16 (aw : Int)) (.int .u16 (al : Int)) (.int .i64 ae) (.int .i64 ak) (.int .u16 (bv : Int)) (.int .u16 (bw : Int)) (.int .u16 (bl : Int)) (.int .i64 be) (.int .i64 bk) (.bool false) hB2.out (by first | omega | simp)
  generalize (((((((((((w1.setCell ⟨w.heap.size + 1, 0, none⟩ (.int .u16 (av : Int))).setCell ⟨w.heap.size + 1, 1, none⟩ (.int .u16 (aw : Int))).setCell ⟨w.heap.size + 1, 2, none⟩ (.int .u16 (al : Int))).setCell ⟨w.heap.size + 1, 3, none⟩ (.int .i64 ae)).setCell ⟨w.heap.size + 1, 4, none⟩ (.int .i64 ak)).setCell ⟨w.heap.size + 1, 5, none⟩ (.int .u16 (bv : Int))).setCell ⟨w.heap.size + 1, 6, none⟩ (.int .u16 (bw : Int))).setCell ⟨w.heap.size + 1, 7, none⟩ (.int .u16 (bl : Int))).setCell ⟨w.heap.size + 1, 8, none⟩ (.int .i64 be)).setCell ⟨w.heap.size + 1, 9, none⟩ (.int .i64 bk)).setCell ⟨w.heap.size + 1, 10, none⟩ (.bool false)) = wf at *
  obtain ⟨e0, e1, e2, e3, e4, e5, e6, e7, e8, e9, e10⟩ := blk11 sF
  (try simp only [Exit.inBlock, Exit.then])
  refine bodyPost_ret (by simp [results, Tryz.results149, go_sem, e0, e1, e2, e3, e4, e5, e6, e7, e8, e9, e10]; try rfl) rfl ?_
  exact ⟨by rfl, bF⟩
 ·
  go_enter Tryz.func149, Tryz.ntmps149
  go_upto_region 1 with (fail)
  generalize ((w.alloc (.cells #[.int .u16 (av : Int), .int .u16 (aw : Int), .int .u16 (al : Int), .int .i64 ae, .int .i64 ak, .int .u16 (bv : Int), .int .u16 (bw : Int), .int .u16 (bl : Int), .int .i64 be, .int .i64 bk, .bool true] 27)).alloc (.cells #[.int .u16 0, .int .u16 0, .int .u16 0, .int .i64 0, .int .i64 0, .int .u16 0, .int .u16 0, .int .u16 0, .int .i64 0, .int .i64 0, .bool false] 27)) = w1 at *
  go_wp2_with fail
  have sF := put11 (.int .u16 (bv : Int)) (.int .u16 (bw : Int)) (.int .u16 (bl : Int)) (.int .i64 be) (.int .i64 bk) (.int .u16 0) (.int .u16 0) (.int .u16 0) (.int .i64 0) (.int .i64 0) (.bool false) K1.out
  have bF := below11 (g := w.heap.size + 1) (.int .u16 (bv : Int)) (.int .u16 (bw : Int)) (.int .u16 (bl : Int)) (.int .i64 be) (.int .i64 bk) (.int .u16 0) (.int .u16 0) (.int .u16 0) (.int .i64 0) (.int .i64 0) (.bool false) hB2.out (by first | omega | simp)
  generalize (((((((((((w1.setCell ⟨w.heap.size + 1, 0, none⟩ (.int .u16 (bv : Int))).setCell ⟨w.heap.size + 1, 1, none⟩ (.int .u16 (bw : Int))).setCell ⟨w.heap.size + 1, 2, none⟩ (.int .u16 (bl : Int))).setCell ⟨w.heap.size + 1, 3, none⟩ (.int .i64 be)).setCell ⟨w.heap.size + 1, 4, none⟩ (.int .i64 bk)).setCell ⟨w.heap.size + 1, 5, none⟩ (.int .u16 0)).setCell ⟨w.heap.size + 1, 6, none⟩ (.int .u16 0)).setCell ⟨w.heap.size + 1, 7, none⟩ (.int .u16 0)).setCell ⟨w.heap.size + 1, 8, none⟩ (.int .i64 0)).setCell ⟨w.heap.size + 1, 9, none⟩ (.int .i64 0)).setCell ⟨w.heap.size + 1, 10, none⟩ (.bool false)) = wf at *
  obtain ⟨e0, e1, e2, e3, e4, e5, e6, e7, e8, e9, e10⟩ := blk11 sF
  (try simp only [Exit.inBlock, Exit.then])
  refine bodyPost_ret (by simp [results, Tryz.results149, go_sem, e0, e1, e2, e3, e4, e5, e6, e7, e8, e9, e10]; try rfl) rfl ?_
  exact ⟨by rfl, bF⟩
end Go.Proofs.YtegnfkbmlalkeaaGreat.ref10
