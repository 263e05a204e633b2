/- What the document's answer to zone (antipoderef11) tells of what a configuration survives. Conditions: slices read as lists of ints; sets are uint16 values. -/
import Derived.Test.YtfcljdpjjabhjaaDoorRef11b
namespace Go.Proofs.YtfcljdpjjabhjaaDoor.ref11
open Go Go.RowKit Go.Proofs.YtfcljdpjjabhjaaDoor.kit Go.Proofs.YtfcljdpjjabhjaaDoor.nums Go.Proofs.YtfcljdpjjabhjaaDoor.se Go.Proofs.YtfcljdpjjabhjaaDoor.cf Go.Proofs.YtfcljdpjjabhjaaDoor.zn Go.Proofs.YtfcljdpjjabhjaaDoor.ref9
set_option linter.unusedVariables false

theorem surv_no {l : List Int} {c : CfL} {what : Int} (h : (mayR l && mayS what) = false) : survF l c what = (false, -1) := by
  unfold survF; rw [h]; rfl
theorem surv_all {l : List Int} {c : CfL} {what : Int} (h1 : mayR l = true) (h2 : mayS what = true) (h : (lossL l what).findIdx? (fun g => !withoutF c g) = none) : survF l c what = (true, -1) := by
  unfold survF; rw [h1, h2, h]; rfl
theorem surv_at {l : List Int} {c : CfL} {what : Int} {i : Nat} (h1 : mayR l = true) (h2 : mayS what = true) (h : (lossL l what).findIdx? (fun g => !withoutF c g) = some i) : survF l c what = (false, firstF what + i) := by
  unfold survF; rw [h1, h2, h]; rfl
theorem loss_1 {l : List Int} {i : Nat} (h : i < l.length) : (lossL l 1)[i]? = some (withF 0 ((i + 1 : Nat) : Int)) := by
  unfold lossL withF
  rw [if_pos rfl, List.getElem?_map, List.getElem?_range h]
  simp
theorem loss_2 {l : List Int} {i : Nat} (h : i < 4) : (lossL l 2)[i]? = some (regTo l (i : Int) l.length) := by
  unfold lossL
  rw [if_neg (by decide), if_pos rfl, List.getElem?_map, List.getElem?_range h]
  rfl
theorem reg_in {l : List Int} {r x : Int} {j : Nat} (hx : l[j]? = some x) (h : x = r) : regTo l r (j + 1) = withF (regTo l r j) ((j + 1 : Nat) : Int) := by
  have hd : l.getD j (-1) = x := by rw [List.getD_eq_getElem?_getD, hx]; rfl
  show (if l.getD j (-1) = r then _ else _) = _
  rw [hd, if_pos h]
theorem reg_out {l : List Int} {r x : Int} {j : Nat} (hx : l[j]? = some x) (h : ¬ x = r) : regTo l r (j + 1) = regTo l r j := by
  have hd : l.getD j (-1) = x := by rw [List.getD_eq_getElem?_getD, hx]; rfl
  show (if l.getD j (-1) = r then _ else _) = _
  rw [hd, if_neg h]
set_option maxHeartbeats 2000000 in
theorem surv_any (A : Option Addr) (n cp : Nat) (l : List Int) (c : CfL) (what : Int) (w : World) (B : Nat) (hR : RdV w B A n (i64s l)) (hB : B ≤ w.heap.size) (hn : n ≤ 1099511627776) (h : c.ok) :
    Calls Tryd.prog 16 #[.slice A n cp, cfV c, .int .i64 what] w fun e w' => e = .returned (.tuple #[.bool (survF l c what).1, .int .i64 (survF l c what).2]) ∧ Below w.heap.size w w' := by
  have CR := Lib.hid (fun w hR => mayRegions_any A n cp l w B hR hn)
  have CW := Lib.hid (fun (s k : Nat) (hk : k ≤ 9) (hs : s < 65536) w => with_any s (k : Int) w hs (by omega) (by omega))
  have CS := Lib.hid (fun (g : Nat) (hg : g < 65536) w => without_any c g w h hg)
  have hl := rd_len hR
  have HNO := Lib.hid (fun h => surv_no (l := l) (c := c) (what := what) h)
  have HAL := Lib.hid (fun h1 h2 h => surv_all (l := l) (c := c) (what := what) h1 h2 h)
  have HAT := Lib.hid (fun (i : Nat) h1 h2 h => surv_at (l := l) (c := c) (what := what) (i := i) h1 h2 h)
  have HL1 := Lib.hid (fun (k : Nat) => loss_all (L := lossL l what) (c := c) (k := k))
  have HL2 := Lib.hid (fun (i g : Nat) => loss_at (L := lossL l what) (c := c) (i := i) (g := g))
  have HL3 := Lib.hid (fun (i g : Nat) => loss_more (L := lossL l what) (c := c) (i := i) (g := g))
  have HG := Lib.hid (fun i hi => rd_get hR i hi)
  have HLN := Lib.hid (loss_len l what)
  generalize survF l c what = sv at *
  unfold cfV at *
  obtain ⟨cv, cw, cl, ce, ck⟩ := c
  dsimp only at *
  have k0 : Blk 30 (w.alloc (.cells #[.int .u16 (cv : Int), .int .u16 (cw : Int), .int .u16 (cl : Int), .int .i64 ce, .int .i64 ck] 30)) w.heap.size [.int .u16 (cv : Int), .int .u16 (cw : Int), .int .u16 (cl : Int), .int .i64 ce, .int .i64 ck] := heap_alloc_new w _
  have HB := Lib.hid ((Below.refl w.heap.size w).alloc (Nat.le_refl _) (.cells #[.int .u16 (cv : Int), .int .u16 (cw : Int), .int .u16 (cl : Int), .int .i64 ce, .int .i64 ck] 30))
  have HS : Hid (∀ wq, Below (w.alloc (.cells #[.int .u16 (cv : Int), .int .u16 (cw : Int), .int .u16 (cl : Int), .int .i64 ce, .int .i64 ck] 30)).heap.size (w.alloc (.cells #[.int .u16 (cv : Int), .int .u16 (cw : Int), .int .u16 (cl : Int), .int .i64 ce, .int .i64 ck] 30)) wq → (wq.cell? ⟨w.heap.size, 0, none⟩ = some (.int .u16 (cv : Int)) ∧ wq.cell? ⟨w.heap.size, 1, none⟩ = some (.int .u16 (cw : Int)) ∧ wq.cell? ⟨w.heap.size, 2, none⟩ = some (.int .u16 (cl : Int)) ∧ wq.cell? ⟨w.heap.size, 3, none⟩ = some (.int .i64 ce) ∧ wq.cell? ⟨w.heap.size, 4, none⟩ = some (.int .i64 ck))) := fun wq hq => blk5 (k0.below hq k0.lt)
  have q0 := Below.refl (w.alloc (.cells #[.int .u16 (cv : Int), .int .u16 (cw : Int), .int .u16 (cl : Int), .int .i64 ce, .int .i64 ck] 30)).heap.size (w.alloc (.cells #[.int .u16 (cv : Int), .int .u16 (cw : Int), .int .u16 (cl : Int), .int .i64 ce, .int .i64 ck] 30))
  clear k0
  have HR0 := Lib.hid hR
  clear hR h
  obtain ⟨sv1, sv2⟩ := sv
  dsimp only at *
  cases hm : mayR l
  · have HE := Lib.hid (HNO.out (by rw [hm]; rfl))
    have HE1 := Lib.hid (congrArg Prod.fst HE.out)
    have HE2 := Lib.hid (congrArg Prod.snd HE.out)
    dsimp only at HE1 HE2
    clear HE
    rw [hm] at CR
    clear HNO HAL HAT HL1 HL2 HL3 HG CW CS
    go_enter Tryd.func16, Tryd.ntmps16
    go_upto_region 1 with (fail)
    generalize (w.alloc (.cells #[.int .u16 (cv : Int), .int .u16 (cw : Int), .int .u16 (cl : Int), .int .i64 ce, .int .i64 ck] 30)) = w1 at *
    go_wp2_with fail
    refine (CR.out _ (HR0.out.below (HB.out.mono hB))).mono ?_
    rintro e y1 ⟨rfl, rfl⟩
    go_wp2_with fail
    go_ret2
    exact ⟨by rw [HE1.out, HE2.out]; rfl, HB.out⟩
  · rw [hm] at CR
    have h9 : n ≤ 9 := by have := (mayR_len hm).2.1; omega
    have hW := (mayR_len hm).2.2
    by_cases g1 : what < 0
    · have hs : mayS what = false := by unfold mayS; rw [decide_eq_false (by omega)]; rfl
      have HE := Lib.hid (HNO.out (by rw [hm, hs]; rfl))
      have HE1 := Lib.hid (congrArg Prod.fst HE.out)
      have HE2 := Lib.hid (congrArg Prod.snd HE.out)
      dsimp only at HE1 HE2
      clear HE
      clear HNO HAL HAT HL1 HL2 HL3 HG CW CS hs
      go_enter Tryd.func16, Tryd.ntmps16
      go_upto_region 1 with (fail)
      generalize (w.alloc (.cells #[.int .u16 (cv : Int), .int .u16 (cw : Int), .int .u16 (cl : Int), .int .i64 ce, .int .i64 ck] 30)) = w1 at *
      go_wp2_with fail
      refine (CR.out _ (HR0.out.below (HB.out.mono hB))).mono ?_
      rintro e y1 ⟨rfl, rfl⟩
      go_wp2_with fail
      go_ret2
      exact ⟨by rw [HE1.out, HE2.out]; rfl, HB.out⟩
    · by_cases g2 : 2 < what
      · have hs : mayS what = false := by unfold mayS; rw [decide_eq_false (by omega : ¬ what ≤ 2)]; simp
        have HE := Lib.hid (HNO.out (by rw [hm, hs]; rfl))
        have HE1 := Lib.hid (congrArg Prod.fst HE.out)
        have HE2 := Lib.hid (congrArg Prod.snd HE.out)
        dsimp only at HE1 HE2
        clear HE
        clear HNO HAL HAT HL1 HL2 HL3 HG CW CS hs
        go_enter Tryd.func16, Tryd.ntmps16
        go_upto_region 1 with (fail)
        generalize (w.alloc (.cells #[.int .u16 (cv : Int), .int .u16 (cw : Int), .int .u16 (cl : Int), .int .i64 ce, .int .i64 ck] 30)) = w1 at *
        go_wp2_with fail
        refine (CR.out _ (HR0.out.below (HB.out.mono hB))).mono ?_
        rintro e y1 ⟨rfl, rfl⟩
        go_wp2_with fail
        go_ret2
        exact ⟨by rw [HE1.out, HE2.out]; rfl, HB.out⟩
      · have hs : mayS what = true := by unfold mayS; rw [decide_eq_true (by omega), decide_eq_true (by omega)]; rfl
        have HAL := Lib.hid (fun h => HAL.out hm hs h)
        have HAT := Lib.hid (fun i h => HAT.out i hm hs h)
        clear HNO hs
        by_cases g3 : what = 1
        · subst g3
          have HG1 := Lib.hid (fun (i : Nat) (hi : i < n) => loss_1 (l := l) (i := i) (by omega))
          have HLN : Hid ((lossL l 1).length = n) := by show _ = _; rw [HLN.out]; simpa using hl
          go_enter Tryd.func16, Tryd.ntmps16
          go_upto_region 1 with (fail)
          generalize (w.alloc (.cells #[.int .u16 (cv : Int), .int .u16 (cw : Int), .int .u16 (cl : Int), .int .i64 ce, .int .i64 ck] 30)) = w1 at *
          go_wp2_with fail
          refine (CR.out _ (HR0.out.below (HB.out.mono hB))).mono ?_
          rintro e y1 ⟨rfl, rfl⟩
          go_wp2_with fail
          go_loopw [8] (fun nv wr => ∃ i : Nat, i ≤ n ∧ nv = .int .i64 ((i + 1 : Nat) : Int) ∧ Hid (∀ g ∈ (lossL l 1).take i, withoutF ⟨cv, cw, cl, ce, ck⟩ g = true) ∧ Below w1.heap.size w1 wr) (fun nv _ => n + 1 - (intOf nv).toNat)
          case atStart => exact ⟨0, by omega, rfl, fun g hg => by simp at hg, Below.refl _ _⟩
          case round =>
            obtain ⟨i, hi, rfl, HI, hBr⟩ := hrel
            have r2 := HS.out _ hBr
            by_cases hlt : i < n
            · have HX := Lib.hid (HG1.out i hlt)
              have cw_ := Lib.hid (CW.out 0 (i + 1) (by omega) (by omega))
              have hlt2 : withF 0 ((i + 1 : Nat) : Int) < 65536 := withF_lt _ (by omega)
              have cs_ := Lib.hid (CS.out _ hlt2)
              have H2 := Lib.hid (HL2.out i _ HI.out HX.out)
              have H3 := Lib.hid (HL3.out i _ HI.out HX.out)
              clear HG1 CW CS HL1 HL2 HL3 HX hlt2 HLN
              generalize withF 0 ((i + 1 : Nat) : Int) = g at *
              generalize hwo : withoutF ⟨cv, cw, cl, ce, ck⟩ g = bo at *
              clear hwo
              go_upto_region 7 with (fail)
              have q2 := hBr.drew
              refine wp_region_held_drew (S := fun wq => (wq.cell? ⟨w.heap.size, 0, none⟩ = some (.int .u16 (cv : Int)) ∧ wq.cell? ⟨w.heap.size, 1, none⟩ = some (.int .u16 (cw : Int)) ∧ wq.cell? ⟨w.heap.size, 2, none⟩ = some (.int .u16 (cl : Int)) ∧ wq.cell? ⟨w.heap.size, 3, none⟩ = some (.int .i64 ce) ∧ wq.cell? ⟨w.heap.size, 4, none⟩ = some (.int .i64 ck))) (by kernel_rfl) (HS.out _ q2) (fun hHeld => ?_)
              refine tk 0 { dst := some 31, op := .load 30 (.tmp 4), type := 30, pos := "ref.go:110", after := #[], guard := none } _ ?_
              try simp only [Act.put, List.setIfInBounds_toArray, List.set_cons_zero, List.set_cons_succ]
              refine tk 1 { dst := some 32, op := .move (.tmp 8), type := 3, pos := "ref.go:110", after := #[], guard := none } _ ?_
              try simp only [Act.put, List.setIfInBounds_toArray, List.set_cons_zero, List.set_cons_succ]
              refine wpAnyH_ready (rs := [2]) (by kernel_rfl) (by simp) ?_
              refine AllReadyH.cons (o := { dst := some 33, op := .call { callee := .value (.func 18), args := #[.const (.int .u16 0), .tmp 32], argTypes := #[28, 3] }, type := 28, pos := "ref.go:110", after := #[{ on := 1, ground := .data }], guard := none }) rfl (fun KQ hKQ => ?_) AllReadyH.nil
              go_simp
              refine (cw_.out _).mono ?_
              rintro e y3 ⟨rfl, rfl⟩
              go_wp2_with fail
              refine hKQ.out _ _ ?s_2 (fun hHeld2 => ?_)
              case s_2 => exact HS.out _ q2
              clear hKQ KQ
              try simp only [Act.put, List.setIfInBounds_toArray, List.set_cons_zero, List.set_cons_succ]
              refine wpAnyH_ready (rs := [3]) (by kernel_rfl) (by simp) ?_
              refine AllReadyH.cons (o := { dst := some 34, op := .call { callee := .value (.func 41), args := #[.tmp 31, .tmp 33], argTypes := #[30, 28] }, type := 4, pos := "ref.go:110", after := #[{ on := 0, ground := .data }, { on := 2, ground := .data }, { on := 2, ground := .chain }], guard := none }) rfl (fun KQ hKQ => ?_) AllReadyH.nil
              go_simp
              refine (cs_.out _).mono ?_
              rintro e y4 ⟨rfl, hY4⟩
              have q3 := q2.trans (hY4.mono q2.size)
              go_wp2_with fail
              refine hKQ.out _ _ ?s_3 (fun hHeld3 => ?_)
              case s_3 => exact HS.out _ q3
              clear hKQ KQ
              try simp only [Act.put, List.setIfInBounds_toArray, List.set_cons_zero, List.set_cons_succ]
              refine tk 4 { dst := some 35, op := .unOp .not 4 (.tmp 34), type := 4, pos := "ref.go:110", after := #[{ on := 3, ground := .data }], guard := none } _ ?_
              try simp only [Act.put, List.setIfInBounds_toArray, List.set_cons_zero, List.set_cons_succ]
              refine wpAnyH_done (by kernel_rfl) ?_ _
              cases bo
              · have HE := Lib.hid (HAT.out i (H2.out rfl))
                have HE1 := Lib.hid (congrArg Prod.fst HE.out)
                have HE2 := Lib.hid (congrArg Prod.snd HE.out)
                dsimp only at HE1 HE2
                clear HE
                have hf1 : firstF 1 = 1 := rfl
                rw [hf1] at HE2
                clear H2 H3
                go_wp2_with fail
                go_ret2
                exact ⟨by rw [HE1.out, HE2.out, Int.add_comm]; rfl, HB.out.trans (q3.mono HB.out.size)⟩
              · have HN := Lib.hid (H3.out rfl)
                clear H2 H3
                go_wp2_with fail
                go_round
                case rel => exact ⟨i + 1, by omega, by go_num, HN.out, q3⟩
                case measure => simp [intOf]; omega
            · obtain rfl : i = n := by omega
              have HE := Lib.hid (HAL.out (HL1.out i HI.out HLN.out))
              have HE1 := Lib.hid (congrArg Prod.fst HE.out)
              have HE2 := Lib.hid (congrArg Prod.snd HE.out)
              dsimp only at HE1 HE2
              clear HE
              clear HG1 CW CS HL1 HL2 HL3 HI HAL HAT
              go_wp2_with fail
              go_ret2
              exact ⟨by rw [HE1.out, HE2.out]; rfl, HB.out.trans (hBr.mono HB.out.size)⟩
        · by_cases g4 : what = 2
          · subst g4
            have HG2 := Lib.hid (fun (i : Nat) (hi : i < 4) => loss_2 (l := l) (i := i) hi)
            have HT := Lib.hid (fun (r : Int) (j : Nat) (hj : j ≤ 9) => regTo_lt l r j hj)
            have HIN := Lib.hid (fun (r x : Int) (j : Nat) => reg_in (l := l) (r := r) (x := x) (j := j))
            have HOUT := Lib.hid (fun (r x : Int) (j : Nat) => reg_out (l := l) (r := r) (x := x) (j := j))
            have HLN : Hid ((lossL l 2).length = 4) := by show _ = _; rw [HLN.out]; rfl
            have HC := Lib.hid (fun (b o i : Nat) (x : Int) (hb : b < B) (wr : World) (hc : w.cell? ⟨b, o + i, none⟩ = some (.int .i64 x)) (hr : Below w.heap.size w wr) => (hr.cell (p := ⟨b, o + i, none⟩) (Nat.lt_of_lt_of_le hb hB)).trans hc)
            go_enter Tryd.func16, Tryd.ntmps16
            go_upto_region 1 with (fail)
            generalize (w.alloc (.cells #[.int .u16 (cv : Int), .int .u16 (cw : Int), .int .u16 (cl : Int), .int .i64 ce, .int .i64 ck] 30)) = w1 at *
            go_wp2_with fail
            refine (CR.out _ (HR0.out.below (HB.out.mono hB))).mono ?_
            rintro e y1 ⟨rfl, rfl⟩
            go_wp2_with fail
            go_loopw [9] (fun rv wr => ∃ r : Nat, r ≤ 4 ∧ rv = .int .i64 (r : Int) ∧ Hid (∀ g ∈ (lossL l 2).take r, withoutF ⟨cv, cw, cl, ce, ck⟩ g = true) ∧ Below w1.heap.size w1 wr) (fun rv _ => 4 - (intOf rv).toNat)
            case atStart => exact ⟨0, by omega, rfl, fun g hg => by simp at hg, Below.refl _ _⟩
            case round =>
              obtain ⟨r, hr, rfl, HI, hBr⟩ := hrel
              by_cases hlt : r < 4
              · have HX := Lib.hid (HG2.out r hlt)
                have H2 := Lib.hid (HL2.out r _ HI.out HX.out)
                have H3 := Lib.hid (HL3.out r _ HI.out HX.out)
                have hrr : (r : Int) < 4 := by omega
                have hq0 : Below w.heap.size w wr := HB.out.trans (hBr.mono HB.out.size)
                rw [hl] at H2 H3
                go_wp2_with fail
                go_loop [10, 11] (fun gv nv => ∃ j : Nat, j ≤ n ∧ gv = .int .u16 ((regTo l (r : Int) j : Nat) : Int) ∧ nv = .int .i64 ((j + 1 : Nat) : Int)) (fun _ nv => n + 1 - (intOf nv).toNat)
                case atStart => exact ⟨0, by omega, rfl, rfl⟩
                case round =>
                  obtain ⟨j, hj, rfl, rfl⟩ := hrel
                  by_cases hlj : j < n
                  · obtain ⟨b, o, x, rfl, hb, hx, hc⟩ := HG.out j hlj
                    have hc2 := HC.out b o j x hb wr hc hq0
                    have e1 : ((j + 1 : Nat) : Int) - 1 = (j : Int) := by omega
                    have HI2 := Lib.hid (HIN.out (r : Int) x j hx)
                    have HO2 := Lib.hid (HOUT.out (r : Int) x j hx)
                    have ht := HT.out (r : Int) j (by omega)
                    have cw_ := Lib.hid (CW.out _ (j + 1) (by omega) ht wr)
                    clear hc hx HG CW CS HC HIN HOUT HT HG2 HL1 HL2 HL3 H2 H3 HX HI
                    by_cases gx : x = (r : Int)
                    · have gx2 : (x == (r : Int)) = true := by rw [beq_iff_eq]; exact gx
                      have HN := Lib.hid (HI2.out gx)
                      clear HI2 HO2 gx
                      generalize withF (regTo l (r : Int) j) ((j + 1 : Nat) : Int) = z at *
                      generalize regTo l (r : Int) j = s at *
                      go_wp2_with fail
                      refine cw_.out.mono ?_
                      rintro e y3 ⟨rfl, rfl⟩
                      go_wp2_with fail
                      go_round
                      case rel => exact ⟨j + 1, by omega, by rw [HN.out], by go_num⟩
                      case measure => simp [intOf]; omega
                    · have gx2 : (x == (r : Int)) = false := by rw [beq_eq_false_iff_ne]; exact gx
                      have HN := Lib.hid (HO2.out gx)
                      clear HI2 HO2 gx
                      generalize regTo l (r : Int) j = s at *
                      go_wp2_with fail
                      go_round
                      case rel => exact ⟨j + 1, by omega, by rw [HN.out], by go_num⟩
                      case measure => simp [intOf]; omega
                  · obtain rfl : j = n := by omega
                    have ht := HT.out (r : Int) j (by omega)
                    have cs_ := Lib.hid (CS.out _ ht)
                    have r2 := HS.out _ hBr
                    clear HG CW CS HC HIN HOUT HT HG2 HL1 HL2 HL3 HX HI
                    generalize regTo l (r : Int) j = g at *
                    generalize hwo : withoutF ⟨cv, cw, cl, ce, ck⟩ g = bo at *
                    clear hwo
                    go_wp2_with fail
                    refine (cs_.out _).mono ?_
                    rintro e y4 ⟨rfl, hY4⟩
                    have q3 := hBr.trans (hY4.mono hBr.size)
                    cases bo
                    · have HE := Lib.hid (HAT.out r (H2.out rfl))
                      have HE1 := Lib.hid (congrArg Prod.fst HE.out)
                      have HE2 := Lib.hid (congrArg Prod.snd HE.out)
                      dsimp only at HE1 HE2
                      clear HE
                      have hf1 : firstF 2 = 0 := rfl
                      rw [hf1, Int.zero_add] at HE2
                      clear H2 H3
                      go_wp2_with fail
                      go_ret2
                      exact ⟨by rw [HE1.out, HE2.out]; rfl, HB.out.trans (q3.mono HB.out.size)⟩
                    · have HN := Lib.hid (H3.out rfl)
                      clear H2 H3
                      go_wp2_with fail
                      go_round
                      case rel => exact ⟨r + 1, by omega, by go_num, HN.out, q3⟩
                      case measure => simp [intOf]; omega
              · obtain rfl : r = 4 := by omega
                have HE := Lib.hid (HAL.out (HL1.out 4 HI.out HLN.out))
                have HE1 := Lib.hid (congrArg Prod.fst HE.out)
                have HE2 := Lib.hid (congrArg Prod.snd HE.out)
                dsimp only at HE1 HE2
                clear HE
                clear HG CW CS HC HIN HOUT HT HG2 HL1 HL2 HL3 HI HAL HAT
                go_wp2_with fail
                go_ret2
                exact ⟨by rw [HE1.out, HE2.out]; rfl, HB.out.trans (hBr.mono HB.out.size)⟩
          · obtain rfl : what = 0 := by omega
            have HE := Lib.hid (HAL.out (by rfl))
            have HE1 := Lib.hid (congrArg Prod.fst HE.out)
            have HE2 := Lib.hid (congrArg Prod.snd HE.out)
            dsimp only at HE1 HE2
            clear HE
            clear HAL HAT HL1 HL2 HL3 HG CW CS g1 g2 g3 g4
            go_enter Tryd.func16, Tryd.ntmps16
            go_upto_region 1 with (fail)
            generalize (w.alloc (.cells #[.int .u16 (cv : Int), .int .u16 (cw : Int), .int .u16 (cl : Int), .int .i64 ce, .int .i64 ck] 30)) = w1 at *
            go_wp2_with fail
            refine (CR.out _ (HR0.out.below (HB.out.mono hB))).mono ?_
            rintro e y1 ⟨rfl, rfl⟩
            go_wp2_with fail
            go_ret2
            exact ⟨by rw [HE1.out, HE2.out]; rfl, HB.out⟩
end Go.Proofs.YtfcljdpjjabhjaaDoor.ref11
