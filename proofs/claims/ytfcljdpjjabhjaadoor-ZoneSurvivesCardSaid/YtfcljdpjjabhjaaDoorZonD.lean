/- The landed zone: which losses a configuration survives, which zones may be. Conditions: slices read as lists of ints; sets are uint16 values. -/
import Derived.Test.YtfcljdpjjabhjaaDoorZonC
import Derived.Test.YtfcljdpjjabhjaaDoorKitZn
import Derived.Test.YtfcljdpjjabhjaaDoorConfI
namespace Go.Proofs.YtfcljdpjjabhjaaDoor.zoni
open Go Go.RowKit Go.Proofs.YtfcljdpjjabhjaaDoor.kit Go.Proofs.YtfcljdpjjabhjaaDoor.nums Go.Proofs.YtfcljdpjjabhjaaDoor.se Go.Proofs.YtfcljdpjjabhjaaDoor.cf Go.Proofs.YtfcljdpjjabhjaaDoor.zn Go.Proofs.YtfcljdpjjabhjaaDoor.ref9
set_option linter.unusedVariables false

theorem survives_any (c : CfL) (g : Nat) (w : World) (h : c.ok) (hg : g < 65536) : Calls Tryd.prog 40 #[cfV c, .int .u16 (g : Int)] w fun e w' => e = .returned (.bool (withoutF c g)) ∧ Below w.heap.size w w' := by
  have H1 := bits_or_u16_nat c.v c.w h.1 h.2.1
  have H2 : bits .andNot .u16 ((c.v ||| c.w : Nat) : Int) (g : Int) = ((anF (votF c) g : Nat) : Int) := bits_andNot_u16_nat (c.v ||| c.w) g (vot_lt h) hg
  have H3 : bits .andNot .u16 (c.v : Int) (g : Int) = ((anF c.v g : Nat) : Int) := bits_andNot_u16_nat c.v g h.1 hg
  have C1 := Lib.hid (fun w => confi.count_any (anF (votF c) g) w (an_lt (n := 16) (vot_lt h)))
  have C2 := Lib.hid (fun w => confi.count_any (anF c.v g) w (an_lt (n := 16) h.1))
  have l1 := cntF_le (anF (votF c) g)
  have l2 := cntF_le (anF c.v g)
  unfold withoutF
  generalize cntF (anF (votF c) g) = n1 at *
  generalize cntF (anF c.v g) = n2 at *
  generalize anF (votF c) g = s1 at *
  generalize anF c.v g = s2 at *
  unfold cfV at *
  obtain ⟨cv, cw, cl, ce, ck⟩ := c
  dsimp only at *
  have k0 : Blk 30 (w.alloc (.cells #[.int .u16 (cv : Int), .int .u16 (cw : Int), .int .u16 (cl : Int), .int .i64 ce, .int .i64 ck] 30)) w.heap.size [.int .u16 (cv : Int), .int .u16 (cw : Int), .int .u16 (cl : Int), .int .i64 ce, .int .i64 ck] := heap_alloc_new w _
  have HB := Lib.hid ((Below.refl w.heap.size w).alloc (Nat.le_refl _) (.cells #[.int .u16 (cv : Int), .int .u16 (cw : Int), .int .u16 (cl : Int), .int .i64 ce, .int .i64 ck] 30))
  have HS : Hid (∀ wq, Below (w.alloc (.cells #[.int .u16 (cv : Int), .int .u16 (cw : Int), .int .u16 (cl : Int), .int .i64 ce, .int .i64 ck] 30)).heap.size (w.alloc (.cells #[.int .u16 (cv : Int), .int .u16 (cw : Int), .int .u16 (cl : Int), .int .i64 ce, .int .i64 ck] 30)) wq → (wq.cell? ⟨w.heap.size, 0, none⟩ = some (.int .u16 (cv : Int)) ∧ wq.cell? ⟨w.heap.size, 1, none⟩ = some (.int .u16 (cw : Int)) ∧ wq.cell? ⟨w.heap.size, 2, none⟩ = some (.int .u16 (cl : Int)) ∧ wq.cell? ⟨w.heap.size, 3, none⟩ = some (.int .i64 ce) ∧ wq.cell? ⟨w.heap.size, 4, none⟩ = some (.int .i64 ck))) := fun wq hq => blk5 (k0.below hq k0.lt)
  have q0 := Below.refl (w.alloc (.cells #[.int .u16 (cv : Int), .int .u16 (cw : Int), .int .u16 (cl : Int), .int .i64 ce, .int .i64 ck] 30)).heap.size (w.alloc (.cells #[.int .u16 (cv : Int), .int .u16 (cw : Int), .int .u16 (cl : Int), .int .i64 ce, .int .i64 ck] 30))
  clear k0
  clear h
  generalize cv ||| cw = sv at *
  by_cases e1 : ce ≤ n1
  · by_cases e2 : ck ≤ n1
    · go_enter Tryd.func40, Tryd.ntmps40
      go_upto_region 1 with (fail)
      generalize (w.alloc (.cells #[.int .u16 (cv : Int), .int .u16 (cw : Int), .int .u16 (cl : Int), .int .i64 ce, .int .i64 ck] 30)) = w1 at *
      have r0 := HS.out _ q0
      go_wp2_with fail
      refine (C1.out _).mono ?_
      rintro e y1 ⟨rfl, hY1⟩
      have q1 := q0.trans (hY1.mono q0.size)
      have r1 := HS.out _ q1
      go_wp2_with fail
      refine (C2.out _).mono ?_
      rintro e y2 ⟨rfl, hY2⟩
      have q2 := q1.trans (hY2.mono q1.size)
      go_wp2_with fail
      go_ret
      exact ⟨ret_bool (by simp <;> omega), HB.out.trans (q2.mono HB.out.size)⟩
    · go_enter Tryd.func40, Tryd.ntmps40
      go_upto_region 1 with (fail)
      generalize (w.alloc (.cells #[.int .u16 (cv : Int), .int .u16 (cw : Int), .int .u16 (cl : Int), .int .i64 ce, .int .i64 ck] 30)) = w1 at *
      have r0 := HS.out _ q0
      go_wp2_with fail
      refine (C1.out _).mono ?_
      rintro e y1 ⟨rfl, hY1⟩
      have q1 := q0.trans (hY1.mono q0.size)
      have r1 := HS.out _ q1
      go_wp2_with fail
      go_ret
      exact ⟨ret_bool (by simp <;> omega), HB.out.trans (q1.mono HB.out.size)⟩
  · go_enter Tryd.func40, Tryd.ntmps40
    go_upto_region 1 with (fail)
    generalize (w.alloc (.cells #[.int .u16 (cv : Int), .int .u16 (cw : Int), .int .u16 (cl : Int), .int .i64 ce, .int .i64 ck] 30)) = w1 at *
    have r0 := HS.out _ q0
    go_wp2_with fail
    refine (C1.out _).mono ?_
    rintro e y1 ⟨rfl, hY1⟩
    have q1 := q0.trans (hY1.mono q0.size)
    have r1 := HS.out _ q1
    go_wp2_with fail
    go_ret
    exact ⟨ret_bool (by simp <;> omega), HB.out.trans (q1.mono HB.out.size)⟩
/-- A table of what each loss takes away, and the number of the first. -/
def IsLoss (rs : List Int) (what : Int) (W : World) (e : Ending) (w' : World) : Prop :=
  ∃ A k cp, e = .returned (.tuple #[.slice A k cp, .int .i64 (firstF what)]) ∧ (lossL rs what).length = k ∧ RdV w' w'.heap.size A k (u16s (lossL rs what)) ∧ Below W.heap.size W w'
theorem loss_one {rs : List Int} {i : Nat} (hi : i < rs.length) : (lossL rs 1).take (i + 1) = (lossL rs 1).take i ++ [bitF ((i + 1 : Nat) : Int)] := by
  rw [List.take_succ_eq_append_getElem (by rw [loss_len]; simpa using hi)]
  simp [lossL]
theorem with_zero (n : Int) : withF 0 n = bitF n := by unfold withF; simp
set_option maxHeartbeats 1000000 in
theorem losses_any (A : Option Addr) (n c : Nat) (l : List Int) (what : Int) (w : World) (B : Nat) (hR : RdV w B A n (i64s l)) (hB : B ≤ w.heap.size) (h9 : n ≤ 9) (hW : withinB l 3 = true) :
    Calls Tryd.prog 39 #[.slice A n c, .int .i64 what] w (IsLoss l what w) := by
  have hl := rd_len hR
  unfold IsLoss
  by_cases g1 : what = 1
  · subst g1
    have CW := Lib.hid (fun (k : Nat) (hk : k ≤ 9) (wr : World) => seti.with_any 0 (k : Int) wr (by omega) (by omega) (by omega))
    have HL : Hid ((lossL l 1).length = n) := by show _ = _; rw [loss_len]; simpa using hl
    have HO := Lib.hid (fun (i : Nat) (hi : i < n) => loss_one (rs := l) (i := i) (by omega))
    clear hR hW
    go_enter Tryd.func39, Tryd.ntmps39
    go_wp2_with fail
    go_loopw [4, 12] (fun sv iv wr => ∃ (i : Nat) (A : Option Addr) (cp : Nat), i ≤ n ∧ iv = .int .i64 (i : Int) ∧ sv = .slice A i cp ∧ Hid (((lossL l 1).take i).length = i) ∧ OwnV 28 wr w.heap.size (.slice A i cp) (u16s ((lossL l 1).take i)) ∧ Below w.heap.size w wr) (fun _ iv _ => n - (intOf iv).toNat)
    case atStart => exact ⟨0, none, 0, by omega, rfl, rfl, by show _ = _; simp, by simpa [u16s] using OwnV.nil _ _ _, Below.refl _ _⟩
    case round =>
      obtain ⟨i, A1, cp, hi, rfl, rfl, HT, hO, hBr⟩ := hrel
      have hsz := hBr.size
      by_cases hlt : i < n
      · have cw := Lib.hid (CW.out (i + 1) (by omega))
        have HN := Lib.hid (HO.out i hlt)
        rw [with_zero] at cw
        have HT2 : Hid (((lossL l 1).take (i + 1)).length = i + 1) := by show _ = _; rw [List.length_take, HL.out]; omega
        have hln : (u16s ((lossL l 1).take i)).length = i := by rw [u16s_length]; exact HT.out
        obtain ⟨xs, hxs⟩ : ∃ xs, u16s ((lossL l 1).take i) = xs := ⟨_, rfl⟩
        rw [hxs] at hO hln
        have HX := Lib.hid hxs
        clear hxs CW HO
        generalize hbv : bitF ((i + 1 : Nat) : Int) = bv at *
        go_wp2_with fail
        refine (cw.out _).mono ?_
        rintro e y1 ⟨rfl, hY1⟩
        have hO2 := (hO.below hY1).alloc (.cells #[.int .u16 (bv : Int)] 28)
        have hB1 := hBr.trans (hY1.mono hsz)
        have hsz1 := hB1.size
        have hB2 := hB1.alloc hB1.size (.cells #[.int .u16 (bv : Int)] 28)
        go_wp2_with (at_builtin; with_reducible refine wpList_append_v rfl (.tmp 15) (.tmp 19) 39 rfl w.heap.size 28 (.int .u16 0) 2 Tryd.underlying39 ref9.infoU rfl A1 i cp xs hln rfl hO2 _ _ 1 1 [_] rfl (RdV.one _ _ _) ?k1 ?k2 ?k3 ?k4 ?_)
        case k1 => intro u hu; rw [List.mem_singleton] at hu; subst hu; rfl
        case k2 => omega
        case k3 => unfold maxLen; omega
        case k4 => simp; omega
        intro A3 c3 w3 hO3 hB3 _
        have hB4 := hB2.trans hB3
        clear hB3 hO2 hB2
        go_wp2_with fail
        go_round
        case rel => exact ⟨i + 1, A3, c3, by omega, by go_num, rfl, HT2, by rw [HN.out, u16s_append, HX.out]; exact hO3, hB4⟩
        case measure => simp [intOf]; omega
      · obtain rfl : i = n := by omega
        have e1 : (lossL l 1).take i = lossL l 1 := by rw [← HL.out, List.take_length]
        have hlx : (u16s (lossL l 1)).length = i := by rw [u16s_length]; exact HL.out
        rw [e1] at hO
        obtain ⟨A', c', hv, _, _, hRd⟩ := hO.slice
        rw [hlx] at hv hRd
        injection hv with v1 _ _
        subst v1
        have HRd := Lib.hid hRd
        clear hRd e1 hlx
        go_wp2_with fail
        go_ret2
        exact ⟨A1, i, ⟨_, rfl⟩, HL.out, HRd.out, hBr⟩
  · by_cases g2 : what = 2
    · subst g2
      have CB := Lib.hid (byRegion_any A n c l w B hR hB h9 hW)
      unfold IsTab at CB
      clear hR hW
      go_enter Tryd.func39, Tryd.ntmps39
      go_wp2_with fail
      refine CB.out.mono ?_
      rintro e y1 ⟨rfl, hk, hY1⟩
      have HK := Lib.hid hk
      clear hk
      go_wp2_with fail
      go_ret2
      exact ⟨some ⟨w.heap.size, 0, none⟩, 4, 4, rfl, by rw [loss_len]; rfl, rdv_blk (xs := u16s (lossL l 2)) HK.out (by rw [u16s_length, loss_len]; rfl), hY1⟩
    · have e1 : (what == 1) = false := by rw [beq_eq_false_iff_ne]; exact g1
      have e2 : (what == 2) = false := by rw [beq_eq_false_iff_ne]; exact g2
      have hz : lossL l what = [] := by unfold lossL; rw [if_neg g1, if_neg g2]
      have hf : firstF what = 0 := by unfold firstF; rw [if_neg g1]
      rw [hz, hf]
      clear hR hW
      go_enter Tryd.func39, Tryd.ntmps39
      go_wp2_with fail
      go_ret2
      exact ⟨none, 0, 0, rfl, rfl, RdV.nil _ _ _, Below.refl _ _⟩
set_option maxHeartbeats 2000000 in
theorem surv_any (A : Option Addr) (n cp : Nat) (l : List Int) (c : CfL) (what : Int) (w : World) (B : Nat) (hR : RdV w B A n (i64s l)) (hB : B ≤ w.heap.size) (hn : n ≤ 1099511627776) (h : c.ok) :
    Calls Tryd.prog 15 #[.slice A n cp, cfV c, .int .i64 what] w fun e w' => e = .returned (.tuple #[.bool (survF l c what).1, .int .i64 (survF l c what).2]) ∧ Below w.heap.size w w' := by
  have CR := Lib.hid (fun w hR => mayRegions_any A n cp l w B hR hn)
  have CM := Lib.hid (fun w => maySurvive_any what w)
  have CL := Lib.hid (fun w hR hB h9 hW => losses_any A n cp l what w B hR hB h9 hW)
  have CS := Lib.hid (fun (g : Nat) (hg : g < 65536) w => survives_any c g w h hg)
  have hl := rd_len hR
  have H9 : mayR l = true → n ≤ 9 ∧ withinB l 3 = true := fun hm => by
    unfold mayR at hm
    simp only [Bool.and_eq_true, decide_eq_true_eq] at hm
    exact ⟨by omega, hm.2⟩
  have HG : Hid (∀ (i g : Nat), (lossL l what)[i]? = some g → mayR l = true → g < 65536) := fun i g hg hm => by
    have h9 := (H9 hm).1
    unfold lossL at hg
    split at hg
    · simp only [List.getElem?_map, Option.map_eq_some_iff] at hg
      obtain ⟨x, _, rfl⟩ := hg
      have := bitF_le ((x + 1 : Nat) : Int)
      omega
    · split at hg
      · simp only [List.getElem?_map, Option.map_eq_some_iff] at hg
        obtain ⟨x, _, rfl⟩ := hg
        exact regTo_lt l (x : Int) l.length (by omega)
      · simp at hg
  have HK9 : Hid (mayR l = true → (lossL l what).length ≤ 9) := fun hm => by
    have h9 := (H9 hm).1
    rw [loss_len]; split
    · omega
    · split <;> omega
  have HF : Hid (survF l c what = if (mayR l && mayS what) = true then (match (lossL l what).findIdx? (fun g => !withoutF c g) with | none => (true, -1) | some i => (false, firstF what + i)) else (false, -1)) := Lib.hid rfl
  have hf01 : firstF what = 0 ∨ firstF what = 1 := by unfold firstF; split <;> simp
  have HL1 := Lib.hid (fun (k : Nat) => loss_all (L := lossL l what) (c := c) (k := k))
  have HL2 := Lib.hid (fun (i g : Nat) => loss_at (L := lossL l what) (c := c) (i := i) (g := g))
  have HL3 := Lib.hid (fun (i g : Nat) => loss_more (L := lossL l what) (c := c) (i := i) (g := g))
  unfold IsLoss at CL
  have hfl : lossL l what = lossL l what := rfl
  generalize hx1 : survF l c what = sv at *
  generalize firstF what = fs at *
  generalize lossL l what = LL at *
  unfold cfV at *
  obtain ⟨cv, cw, cl, ce, ck⟩ := c
  dsimp only at *
  have k0 : Blk 30 (w.alloc (.cells #[.int .u16 (cv : Int), .int .u16 (cw : Int), .int .u16 (cl : Int), .int .i64 ce, .int .i64 ck] 30)) w.heap.size [.int .u16 (cv : Int), .int .u16 (cw : Int), .int .u16 (cl : Int), .int .i64 ce, .int .i64 ck] := heap_alloc_new w _
  have HB := Lib.hid ((Below.refl w.heap.size w).alloc (Nat.le_refl _) (.cells #[.int .u16 (cv : Int), .int .u16 (cw : Int), .int .u16 (cl : Int), .int .i64 ce, .int .i64 ck] 30))
  have HS : Hid (∀ wq, Below (w.alloc (.cells #[.int .u16 (cv : Int), .int .u16 (cw : Int), .int .u16 (cl : Int), .int .i64 ce, .int .i64 ck] 30)).heap.size (w.alloc (.cells #[.int .u16 (cv : Int), .int .u16 (cw : Int), .int .u16 (cl : Int), .int .i64 ce, .int .i64 ck] 30)) wq → (wq.cell? ⟨w.heap.size, 0, none⟩ = some (.int .u16 (cv : Int)) ∧ wq.cell? ⟨w.heap.size, 1, none⟩ = some (.int .u16 (cw : Int)) ∧ wq.cell? ⟨w.heap.size, 2, none⟩ = some (.int .u16 (cl : Int)) ∧ wq.cell? ⟨w.heap.size, 3, none⟩ = some (.int .i64 ce) ∧ wq.cell? ⟨w.heap.size, 4, none⟩ = some (.int .i64 ck))) := fun wq hq => blk5 (k0.below hq k0.lt)
  have q0 := Below.refl (w.alloc (.cells #[.int .u16 (cv : Int), .int .u16 (cw : Int), .int .u16 (cl : Int), .int .i64 ce, .int .i64 ck] 30)).heap.size (w.alloc (.cells #[.int .u16 (cv : Int), .int .u16 (cw : Int), .int .u16 (cl : Int), .int .i64 ce, .int .i64 ck] 30))
  clear k0
  have HR0 := Lib.hid hR
  clear hR hfl hx1
  obtain ⟨sv1, sv2⟩ := sv
  dsimp only at *
  cases hm : mayR l
  · rw [hm] at CR
    rw [hm, Bool.false_and, if_neg (by decide)] at HF
    have HF1 := Lib.hid (congrArg Prod.fst HF.out)
    have HF2 := Lib.hid (congrArg Prod.snd HF.out)
    dsimp only at HF1 HF2
    clear HF
    go_enter Tryd.func15, Tryd.ntmps15
    go_upto_region 1 with (fail)
    generalize (w.alloc (.cells #[.int .u16 (cv : Int), .int .u16 (cw : Int), .int .u16 (cl : Int), .int .i64 ce, .int .i64 ck] 30)) = w1 at *
    go_wp2_with fail
    refine (CR.out _ (HR0.out.below (HB.out.mono hB))).mono ?_
    rintro e y1 ⟨rfl, rfl⟩
    go_wp2_with fail
    go_ret2
    exact ⟨by rw [HF1.out, HF2.out]; rfl, HB.out⟩
  · rw [hm] at CR
    rw [hm, Bool.true_and] at HF
    obtain ⟨h9, hW⟩ := H9 hm
    cases hs : mayS what
    · rw [hs] at CM
      rw [hs, if_neg (by decide)] at HF
      have HF1 := Lib.hid (congrArg Prod.fst HF.out)
      have HF2 := Lib.hid (congrArg Prod.snd HF.out)
      dsimp only at HF1 HF2
      clear HF
      go_enter Tryd.func15, Tryd.ntmps15
      go_upto_region 1 with (fail)
      generalize (w.alloc (.cells #[.int .u16 (cv : Int), .int .u16 (cw : Int), .int .u16 (cl : Int), .int .i64 ce, .int .i64 ck] 30)) = w1 at *
      go_wp2_with fail
      refine (CR.out _ (HR0.out.below (HB.out.mono hB))).mono ?_
      rintro e y1 ⟨rfl, rfl⟩
      go_wp2_with fail
      refine (CM.out _).mono ?_
      rintro e y1 ⟨rfl, rfl⟩
      go_wp2_with fail
      go_ret2
      exact ⟨by rw [HF1.out, HF2.out]; rfl, HB.out⟩
    · rw [hs] at CM
      rw [hs, if_pos rfl] at HF
      go_enter Tryd.func15, Tryd.ntmps15
      go_upto_region 1 with (fail)
      have hsz0 : w.heap.size ≤ (w.alloc (.cells #[.int .u16 (cv : Int), .int .u16 (cw : Int), .int .u16 (cl : Int), .int .i64 ce, .int .i64 ck] 30)).heap.size := HB.out.size
      generalize (w.alloc (.cells #[.int .u16 (cv : Int), .int .u16 (cw : Int), .int .u16 (cl : Int), .int .i64 ce, .int .i64 ck] 30)) = w1 at *
      go_wp2_with fail
      refine (CR.out _ (HR0.out.below (HB.out.mono hB))).mono ?_
      rintro e y1 ⟨rfl, rfl⟩
      go_wp2_with fail
      refine (CM.out _).mono ?_
      rintro e y1 ⟨rfl, rfl⟩
      go_wp2_with fail
      refine (CL.out _ (HR0.out.below (HB.out.mono hB)) (by omega) h9 hW).mono ?_
      rintro e y1 ⟨A1, k, c1, rfl, hk, hRd, hY1⟩
      have q1 := q0.trans (hY1.mono q0.size)
      have HK := Lib.hid hk
      have HA := Lib.hid (fun i hi => rd_set hRd i hi)
      have hk9 : k ≤ 9 := by have := HK9.out hm; omega
      clear hk hRd CL CM CR HR0
      go_wp2_with fail
      go_loopw [28] (fun iv wr => ∃ i : Nat, i ≤ k ∧ iv = .int .i64 (i : Int) ∧ Hid (∀ g ∈ LL.take i, withoutF ⟨cv, cw, cl, ce, ck⟩ g = true) ∧ Below y1.heap.size y1 wr) (fun iv _ => k - (intOf iv).toNat)
      case atStart => exact ⟨0, by omega, rfl, fun g hg => by simp at hg, Below.refl _ _⟩
      case round =>
        obtain ⟨i, hi, rfl, HI, hBr⟩ := hrel
        have q2 := q1.trans (hBr.mono q1.size)
        have r2 := HS.out _ q2
        by_cases hlt : i < k
        · obtain ⟨b, o, x, rfl, hb, hx, hc⟩ := HA.out i hlt
          have hc2 := (hBr.cell (p := ⟨b, o + i, none⟩) hb).trans hc
          have HX := Lib.hid hx
          have cS := Lib.hid (CS.out x (HG.out i x hx hm))
          clear hc hx HA CS HG
          cases hwo : withoutF ⟨cv, cw, cl, ce, ck⟩ x
          · rw [hwo] at cS
            have HN := Lib.hid (HL2.out i x HI.out HX.out hwo)
            rw [HN.out] at HF
            have HF1 := Lib.hid (congrArg Prod.fst HF.out)
            have HF2 := Lib.hid (congrArg Prod.snd HF.out)
            dsimp only at HF1 HF2
            clear HF HL1 HL2 HL3 hwo
            go_wp2_with fail
            refine (cS.out _).mono ?_
            rintro e y3 ⟨rfl, hY3⟩
            have q3 := q2.trans (hY3.mono q2.size)
            go_wp2_with fail
            go_ret2
            exact ⟨by rw [HF1.out, HF2.out]; rfl, HB.out.trans (q3.mono HB.out.size)⟩
          · rw [hwo] at cS
            have HN := Lib.hid (HL3.out i x HI.out HX.out hwo)
            clear HF HL1 HL2 HL3 hwo
            go_wp2_with fail
            refine (cS.out _).mono ?_
            rintro e y3 ⟨rfl, hY3⟩
            have q3 := hBr.trans (hY3.mono hBr.size)
            go_wp2_with fail
            go_round
            case rel => exact ⟨i + 1, by omega, by go_num, HN.out, q3⟩
            case measure => simp [intOf]; omega
        · obtain rfl : i = k := by omega
          have HN := Lib.hid (HL1.out i HI.out HK.out)
          rw [HN.out] at HF
          have HF1 := Lib.hid (congrArg Prod.fst HF.out)
          have HF2 := Lib.hid (congrArg Prod.snd HF.out)
          dsimp only at HF1 HF2
          clear HF HL1 HL2 HL3
          go_wp2_with fail
          go_ret2
          exact ⟨by rw [HF1.out, HF2.out]; rfl, HB.out.trans (q2.mono HB.out.size)⟩
end Go.Proofs.YtfcljdpjjabhjaaDoor.zoni
