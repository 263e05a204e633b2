/- ConfChain answers true: along any chain of changes whatever elects meets whatever committed. Conditions: sets are uint16 values, numbers int; the configurations read so. -/
import Derived.Test.YtdpfpcdoocampaaBegun10
import Derived.Test.YtdpfpcdoocampaaRef9c
import Derived.Test.YtdpfpcdoocampaaKitCf
namespace Go.Proofs.Ytdpfpcdoocampaa.law10
open Go Go.RowKit Go.Proofs.Ytdpfpcdoocampaa.kit Go.Proofs.Ytdpfpcdoocampaa.nums Go.Proofs.Ytdpfpcdoocampaa.se Go.Proofs.Ytdpfpcdoocampaa.cf
set_option linter.unusedVariables false

set_option maxRecDepth 10000 in
set_option maxHeartbeats 16000000 in
theorem chain_nat (c : CfL) (A : Option Addr) (k cap : Nat) (xs : List CfL) (ga gb : Nat) (w : World) (hc : c.ok) (hR : RdCf w w.heap.size A k xs) (hkc : k ≤ cap) (hcm : cap ≤ maxLen) (hga : ga < 65536) (hgb : gb < 65536) :
    Calls Try.prog 9 #[cfV c, .slice A k cap, .int .u16 (ga : Int), .int .u16 (gb : Int)] w fun e w' => e = .returned (.bool true) ∧ Below w.heap.size w w' := by
  have HT : Hid (∀ i, i < k → ∃ tb f x, A = some ⟨tb, f, none⟩ ∧ tb < w.heap.size ∧ x.ok ∧ At w tb (f + i * 5) (cfC x)) := fun i hi => by
    obtain ⟨b, o, rfl, hb, h⟩ := hR.2 (by omega)
    have hx : xs[i]? = some (xs[i]'(by rw [hR.1]; exact hi)) := List.getElem?_eq_getElem _
    exact ⟨b, o, _, rfl, hb, (h i _ hx).2, (h i _ hx).1⟩
  clear hR
  unfold maxLen at hcm
  have CB := Lib.hid (fun w => begun_any w)
  have CM := Lib.hid (fun w => confi.may_any c w hc)
  have HCK := Lib.hid hc
  generalize hmc : mayC c = mc at *
  have hmc2 : mc = true → mayC c = true := fun h => by rw [hmc]; exact h
  clear hmc hc
  obtain ⟨cv, cw, cl, ce, ck⟩ := c
  unfold cfV at CM ⊢
  dsimp only at CM ⊢
  have k0 : Blk 25 (w.alloc (.cells #[.int .u16 (cv : Int), .int .u16 (cw : Int), .int .u16 (cl : Int), .int .i64 ce, .int .i64 ck] 25)) w.heap.size [.int .u16 (cv : Int), .int .u16 (cw : Int), .int .u16 (cl : Int), .int .i64 ce, .int .i64 ck] := heap_alloc_new w _
  have HB := Lib.hid ((Below.refl w.heap.size w).alloc (Nat.le_refl _) (.cells #[.int .u16 (cv : Int), .int .u16 (cw : Int), .int .u16 (cl : Int), .int .i64 ce, .int .i64 ck] 25))
  have HS : Hid (∀ wq, Below (w.alloc (.cells #[.int .u16 (cv : Int), .int .u16 (cw : Int), .int .u16 (cl : Int), .int .i64 ce, .int .i64 ck] 25)).heap.size (w.alloc (.cells #[.int .u16 (cv : Int), .int .u16 (cw : Int), .int .u16 (cl : Int), .int .i64 ce, .int .i64 ck] 25)) wq → (wq.cell? ⟨w.heap.size, 0, none⟩ = some (.int .u16 (cv : Int)) ∧ wq.cell? ⟨w.heap.size, 1, none⟩ = some (.int .u16 (cw : Int)) ∧ wq.cell? ⟨w.heap.size, 2, none⟩ = some (.int .u16 (cl : Int)) ∧ wq.cell? ⟨w.heap.size, 3, none⟩ = some (.int .i64 ce) ∧ wq.cell? ⟨w.heap.size, 4, none⟩ = some (.int .i64 ck))) := fun wq hq => blk5 (k0.below hq k0.lt)
  have q0 := Below.refl (w.alloc (.cells #[.int .u16 (cv : Int), .int .u16 (cw : Int), .int .u16 (cl : Int), .int .i64 ce, .int .i64 ck] 25)).heap.size (w.alloc (.cells #[.int .u16 (cv : Int), .int .u16 (cw : Int), .int .u16 (cl : Int), .int .i64 ce, .int .i64 ck] 25))
  have hw1 : w.heap.size < (w.alloc (.cells #[.int .u16 (cv : Int), .int .u16 (cw : Int), .int .u16 (cl : Int), .int .i64 ce, .int .i64 ck] 25)).heap.size := k0.lt
  clear k0
  go_enter Try.func9, Try.ntmps9
  go_upto_region 1 with (fail)
  generalize (w.alloc (.cells #[.int .u16 (cv : Int), .int .u16 (cw : Int), .int .u16 (cl : Int), .int .i64 ce, .int .i64 ck] 25)) = w1 at *
  have r0 := HS.out _ q0
  go_wp2_with fail
  refine (CB.out _).mono ?_
  rintro e y1 ⟨rfl, hY1⟩
  have q1 := q0.trans (hY1.mono q0.size)
  have r1 := HS.out _ q1
  clear r0
  by_cases h10 : (10 : Int) < k
  · have g0 : decide ((10 : Int) < k) = true := decide_eq_true h10
    go_wp2_with fail
    go_ret
    exact ⟨rfl, HB.out.trans (q1.mono HB.out.size)⟩
  · have g0 : decide ((10 : Int) < k) = false := decide_eq_false (by omega)
    have hk10 : k ≤ 10 := by omega
    clear h10
    cases mc
    · go_wp2_with fail
      refine (CM.out _).mono ?_
      rintro e y2 ⟨rfl, hY2⟩
      have q2 := q1.trans (hY2.mono q1.size)
      have r2 := HS.out _ q2
      clear r1
      go_wp2_with fail
      go_ret
      exact ⟨rfl, HB.out.trans (q2.mono HB.out.size)⟩
    · go_wp2_with fail
      refine (CM.out _).mono ?_
      rintro e y2 ⟨rfl, hY2⟩
      have q2 := q1.trans (hY2.mono q1.size)
      have r2 := HS.out _ q2
      clear r1
      have k9 : Blk 27 (y2.alloc (.cells #[.int .u16 (cv : Int), .int .u16 (cw : Int), .int .u16 (cl : Int), .int .i64 ce, .int .i64 ck, .int .u16 0, .int .u16 0, .int .u16 0, .int .i64 0, .int .i64 0, .bool false] 27)) y2.heap.size [.int .u16 (cv : Int), .int .u16 (cw : Int), .int .u16 (cl : Int), .int .i64 ce, .int .i64 ck, .int .u16 0, .int .u16 0, .int .u16 0, .int .i64 0, .int .i64 0, .bool false] := heap_alloc_new y2 _
      have b9 := q2.alloc q2.size (.cells #[.int .u16 (cv : Int), .int .u16 (cw : Int), .int .u16 (cl : Int), .int .i64 ce, .int .i64 ck, .int .u16 0, .int .u16 0, .int .u16 0, .int .i64 0, .int .i64 0, .bool false] 27)
      have hp9 : w1.heap.size ≤ y2.heap.size := q2.size
      have K9 := Lib.hid k9
      have B9 := Lib.hid b9
      clear k9 b9
      go_upto_region 6 with (fail)
      generalize (y2.alloc (.cells #[.int .u16 (cv : Int), .int .u16 (cw : Int), .int .u16 (cl : Int), .int .i64 ce, .int .i64 ck, .int .u16 0, .int .u16 0, .int .u16 0, .int .i64 0, .int .i64 0, .bool false] 27)) = w2 at *
      generalize y2.heap.size = p9 at *
      clear g0 r2
      go_wp2_with fail
      go_loopw [10] (fun iv wr => ∃ (i : Nat) (u : CfL), i ≤ k ∧ iv = .int .i64 (i : Int) ∧ Hid (u.ok ∧ mayC u = true ∧ u.w = cw) ∧ Blk 27 wr p9 [.int .u16 (u.v : Int), .int .u16 (u.w : Int), .int .u16 (u.l : Int), .int .i64 u.e, .int .i64 u.k, .int .u16 0, .int .u16 0, .int .u16 0, .int .i64 0, .int .i64 0, .bool false] ∧ Below w1.heap.size w1 wr) (fun iv _ => k - (intOf iv).toNat)
      case atStart => exact ⟨0, ⟨cv, cw, cl, ce, ck⟩, Nat.zero_le _, rfl, Lib.hid ⟨HCK.out, hmc2 (by simp), rfl⟩, K9.out, B9.out⟩
      case round =>
        obtain ⟨i, u, hi, rfl, HU, k9, hBr⟩ := hrel
        by_cases hlt : i < k
        · have hlti : (i : Int) < k := by omega
          obtain ⟨tb, f, x, rfl, htb, hxok, hxA⟩ := HT.out i hlt
          have CH := Lib.hid (fun w => confi.change_any ⟨u, zeroC, false⟩ x w ⟨HU.out.1, zero_ok⟩ hxok)
          have HE0 : Hid (changeE ⟨u, zeroC, false⟩ x = 0 → mayC x = true ∧ x.w = u.w ∧ (⟨u, x, true⟩ : JtL) = changeJ ⟨u, zeroC, false⟩ x) := fun h => ⟨(change_fine h).2.1, (change_fine h).2.2.1, (change_fine h).2.2.2.symm⟩
          have HX := Lib.hid hxok
          have hrw : Below w.heap.size w wr := HB.out.trans (hBr.mono HB.out.size)
          have hAx : At wr tb (f + i * 5) (cfC x) := hxA.below htb hrw
          have hx2 : tb < wr.heap.size := Nat.lt_of_lt_of_le htb hrw.size
          clear hxA hrw hxok
          have E1 := Lib.hid (fun w => confi.elects_any ⟨u, x, true⟩ ga w ⟨HU.out.1, HX.out⟩ hga)
          have C1 := Lib.hid (fun w => confi.commits_any ⟨u, zeroC, false⟩ gb w ⟨HU.out.1, zero_ok⟩ hgb)
          have C2 := Lib.hid (fun w => confi.commits_any ⟨x, zeroC, false⟩ gb w ⟨HX.out, zero_ok⟩ hgb)
          have MN := Lib.hid (fun w => confi.mayJ_any ⟨u, x, true⟩ w ⟨HU.out.1, HX.out⟩)
          have MF := Lib.hid (fun w => confi.mayJ_any ⟨x, zeroC, false⟩ w ⟨HX.out, zero_ok⟩)
          have FN := Lib.hid (fun w => confi.final_any ⟨u, x, true⟩ w)
          have CA := Lib.hid (fun w => confi.change_any ⟨u, x, true⟩ x w ⟨HU.out.1, HX.out⟩ HX.out)
          have HMN : Hid (mayC x = true → mayJ ⟨u, x, true⟩ = true ∧ mayJ ⟨x, zeroC, false⟩ = true) := fun h => by unfold mayJ; simp [HU.out.2.1, h]
          have HME : Hid (mayC x = true → elJ ⟨u, x, true⟩ ga = true → (coJ ⟨u, zeroC, false⟩ gb = true ∨ coJ ⟨x, zeroC, false⟩ gb = true) → meetF ga gb ≠ 0) := fun hm h1 h2 => by
            have hj : mayJ ⟨u, x, true⟩ = true := by unfold mayJ; simp [HU.out.2.1, hm]
            rcases h2 with h2 | h2
            · exact joint_meets (i := ⟨u, zeroC, false⟩) hj (.inl rfl) h1 (.inl h2)
            · exact joint_meets (i := ⟨x, zeroC, false⟩) hj (.inr (.inl ⟨rfl, rfl⟩)) h1 (.inl h2)
          have hca := change_two (j := ⟨u, x, true⟩) x rfl
          rw [hca.1, hca.2] at CA
          clear hca
          have CX := Lib.hid (fun w => ref9.meet_any ga gb w hga hgb)
          generalize changeJ ⟨u, zeroC, false⟩ x = R at *
          generalize changeE ⟨u, zeroC, false⟩ x = E at *
          generalize elJ ⟨u, x, true⟩ ga = e1 at *
          generalize coJ ⟨u, zeroC, false⟩ gb = c1 at *
          generalize coJ ⟨x, zeroC, false⟩ gb = c2 at *
          generalize meetF ga gb = z at *
          generalize mayJ ⟨u, x, true⟩ = mn at *
          generalize mayJ ⟨x, zeroC, false⟩ = mf at *
          have hs9 := k9.lt
          obtain ⟨uv, uw, ul, ue, uk⟩ := u
          obtain ⟨xv, xw, xl, xe, xk⟩ := x
          obtain ⟨⟨rv, rw_, rl, re, rk⟩, ⟨sv, sw, sl, se, sk⟩, rt⟩ := R
          unfold zeroC jtV cfV at CH
          unfold zeroC jtV at C1 C2 MF
          unfold jtV at E1 MN FN
          unfold zeroJ zeroC jtV cfV at CA
          unfold finalJ zeroC at FN
          unfold cfC at hAx
          dsimp only at CH C1 C2 MF E1 MN FN CA hAx k9
          simp only [Int.natCast_zero, if_true] at CH C1 C2 MF FN CA
          have hc1 : Below w1.heap.size w1 wr := hBr
          have HS2 : Hid (∀ wq, Below wr.heap.size wr wq → (wq.cell? ⟨p9, 0, none⟩ = some (.int .u16 (uv : Int)) ∧ wq.cell? ⟨p9, 1, none⟩ = some (.int .u16 (uw : Int)) ∧ wq.cell? ⟨p9, 2, none⟩ = some (.int .u16 (ul : Int)) ∧ wq.cell? ⟨p9, 3, none⟩ = some (.int .i64 ue) ∧ wq.cell? ⟨p9, 4, none⟩ = some (.int .i64 uk) ∧ wq.cell? ⟨p9, 5, none⟩ = some (.int .u16 0) ∧ wq.cell? ⟨p9, 6, none⟩ = some (.int .u16 0) ∧ wq.cell? ⟨p9, 7, none⟩ = some (.int .u16 0) ∧ wq.cell? ⟨p9, 8, none⟩ = some (.int .i64 0) ∧ wq.cell? ⟨p9, 9, none⟩ = some (.int .i64 0) ∧ wq.cell? ⟨p9, 10, none⟩ = some (.bool false)) ∧ (wq.cell? ⟨tb, f + i * 5, none⟩ = some (.int .u16 (xv : Int)) ∧ wq.cell? ⟨tb, f + i * 5 + 1, none⟩ = some (.int .u16 (xw : Int)) ∧ wq.cell? ⟨tb, f + i * 5 + 2, none⟩ = some (.int .u16 (xl : Int)) ∧ wq.cell? ⟨tb, f + i * 5 + 3, none⟩ = some (.int .i64 xe) ∧ wq.cell? ⟨tb, f + i * 5 + 4, none⟩ = some (.int .i64 xk)) ∧ (wq.cell? ⟨w.heap.size, 0, none⟩ = some (.int .u16 (cv : Int)) ∧ wq.cell? ⟨w.heap.size, 1, none⟩ = some (.int .u16 (cw : Int)) ∧ wq.cell? ⟨w.heap.size, 2, none⟩ = some (.int .u16 (cl : Int)) ∧ wq.cell? ⟨w.heap.size, 3, none⟩ = some (.int .i64 ce) ∧ wq.cell? ⟨w.heap.size, 4, none⟩ = some (.int .i64 ck))) := fun wq hq => ⟨blk11 (k9.below hq hs9), at5 (hAx.below hx2 hq), HS.out wq (hc1.trans (hq.mono hc1.size))⟩
          have KR := Lib.hid k9
          clear k9 hAx hc1
          have q0 := Below.refl wr.heap.size wr
          by_cases he : E = 0
          · subst he
            obtain ⟨hxm, hxw, hR⟩ := HE0.out rfl
            simp only [JtL.mk.injEq, CfL.mk.injEq] at hR
            obtain ⟨⟨rfl, rfl, rfl, rfl, rfl⟩, ⟨rfl, rfl, rfl, rfl, rfl⟩, rfl⟩ := hR
            dsimp only at hxw
            have huw := HU.out.2.2
            dsimp only at huw
            obtain rfl : uw = cw := huw
            subst hxw
            obtain ⟨rfl, rfl⟩ := HMN.out hxm
            have HU2 : Hid (CfL.ok ⟨xv, xw, xl, xe, xk⟩ ∧ mayC ⟨xv, xw, xl, xe, xk⟩ = true ∧ (⟨xv, xw, xl, xe, xk⟩ : CfL).w = xw) := Lib.hid ⟨HX.out, hxm, rfl⟩
            have HZ := Lib.hid (fun h1 h2 => HME.out hxm h1 h2)
            clear HE0 HMN HME hxm HX hmc2 HCK CM CB HT
            go_upto_region 9 with (fail)
            go_cut [11, 12] from 200 (fun sa sb wx => ∃ g, sa = .pointer (some ⟨g, 0, none⟩) ∧ sb = .int .i64 0 ∧ wr.heap.size ≤ g ∧ Blk 27 wx g [.int .u16 (uv : Int), .int .u16 (xw : Int), .int .u16 (ul : Int), .int .i64 ue, .int .i64 uk, .int .u16 (xv : Int), .int .u16 (xw : Int), .int .u16 (xl : Int), .int .i64 xe, .int .i64 xk, .bool true] ∧ Hid (Below wr.heap.size wr wx))
            case first =>
              have p0 : Below wr.heap.size wr wr.drew := (Below.refl _ _).drew
              refine wp_region_held_drew (S := fun wq => (wq.cell? ⟨p9, 0, none⟩ = some (.int .u16 (uv : Int)) ∧ wq.cell? ⟨p9, 1, none⟩ = some (.int .u16 (xw : Int)) ∧ wq.cell? ⟨p9, 2, none⟩ = some (.int .u16 (ul : Int)) ∧ wq.cell? ⟨p9, 3, none⟩ = some (.int .i64 ue) ∧ wq.cell? ⟨p9, 4, none⟩ = some (.int .i64 uk) ∧ wq.cell? ⟨p9, 5, none⟩ = some (.int .u16 0) ∧ wq.cell? ⟨p9, 6, none⟩ = some (.int .u16 0) ∧ wq.cell? ⟨p9, 7, none⟩ = some (.int .u16 0) ∧ wq.cell? ⟨p9, 8, none⟩ = some (.int .i64 0) ∧ wq.cell? ⟨p9, 9, none⟩ = some (.int .i64 0) ∧ wq.cell? ⟨p9, 10, none⟩ = some (.bool false)) ∧ (wq.cell? ⟨tb, f + i * 5, none⟩ = some (.int .u16 (xv : Int)) ∧ wq.cell? ⟨tb, f + i * 5 + 1, none⟩ = some (.int .u16 (xw : Int)) ∧ wq.cell? ⟨tb, f + i * 5 + 2, none⟩ = some (.int .u16 (xl : Int)) ∧ wq.cell? ⟨tb, f + i * 5 + 3, none⟩ = some (.int .i64 xe) ∧ wq.cell? ⟨tb, f + i * 5 + 4, none⟩ = some (.int .i64 xk)) ∧ (wq.cell? ⟨w.heap.size, 0, none⟩ = some (.int .u16 (cv : Int)) ∧ wq.cell? ⟨w.heap.size, 1, none⟩ = some (.int .u16 (xw : Int)) ∧ wq.cell? ⟨w.heap.size, 2, none⟩ = some (.int .u16 (cl : Int)) ∧ wq.cell? ⟨w.heap.size, 3, none⟩ = some (.int .i64 ce) ∧ wq.cell? ⟨w.heap.size, 4, none⟩ = some (.int .i64 ck))) (by kernel_rfl) ?s_chn9a (fun hHeld => ?_)
              case s_chn9a => exact HS2.out _ p0
              have pc := p0
              clear p0
              refine tk 0 { dst := some 35, op := .load 27 (.tmp 9), type := 27, pos := "more.go:42", after := #[], guard := none } _ ?_
              try simp only [Act.put, List.setIfInBounds_toArray, List.set_cons_zero, List.set_cons_succ]
              refine tk 1 { dst := some 36, op := .move (.tmp 1), type := 46, pos := "more.go:42", after := #[], guard := none } _ ?_
              try simp only [Act.put, List.setIfInBounds_toArray, List.set_cons_zero, List.set_cons_succ]
              refine tk 2 { dst := some 37, op := .move (.tmp 10), type := 3, pos := "more.go:42", after := #[], guard := none } _ ?_
              try simp only [Act.put, List.setIfInBounds_toArray, List.set_cons_zero, List.set_cons_succ]
              refine tk 3 { dst := some 38, op := .indexAddr 46 (.tmp 36) (.tmp 37), type := 0, pos := "more.go:42", after := #[{ on := 1, ground := .data }, { on := 2, ground := .data }], guard := none } _ ?_
              try simp only [Act.put, List.setIfInBounds_toArray, List.set_cons_zero, List.set_cons_succ]
              refine tk 4 { dst := some 39, op := .load 25 (.tmp 38), type := 25, pos := "more.go:42", after := #[{ on := 3, ground := .data }], guard := none } _ ?_
              try simp only [Act.put, List.setIfInBounds_toArray, List.set_cons_zero, List.set_cons_succ]
              refine wpAnyH_ready (rs := [5, 9]) (by kernel_rfl) (by simp) ?_
              refine AllReadyH.cons (o := { dst := some 40, op := .call { callee := .value (.func 27), args := #[.tmp 35, .tmp 39], argTypes := #[27, 25] }, type := 36, pos := "more.go:42", after := #[{ on := 0, ground := .data }, { on := 4, ground := .data }], guard := none }) rfl (fun KQ hKQ => ?_) (AllReadyH.cons (o := { dst := some 11, op := .alloc 27, type := 0, pos := "more.go:42", after := #[], guard := none }) rfl (fun KQ hKQ => ?_) AllReadyH.nil)
              · go_simp
                refine (CH.out _).mono ?_
                rintro e z1 ⟨rfl, hZ1⟩
                have pn := pc.trans (hZ1.mono (by have h9 := pc.size; omega))
                clear pc
                have pc := pn
                clear pn
                (try have kz := kz.below hZ1 kz.lt)
                (try have cz := blk11 kz)
                (try have dfz := fun i => kz.frozen i)
                have sz := HS2.out _ pc
                go_wp2_with fail
                refine hKQ.out _ _ ?s_5a (fun hHeld5 => ?_)
                case s_5a => exact sz
                clear hKQ KQ
                try simp only [Act.put, List.setIfInBounds_toArray, List.set_cons_zero, List.set_cons_succ]
                refine tk 6 { dst := some 34, op := .move (.tmp 40), type := 36, pos := "more.go:42", after := #[{ on := 5, ground := .data }], guard := none } _ ?_
                try simp only [Act.put, List.setIfInBounds_toArray, List.set_cons_zero, List.set_cons_succ]
                refine tk 7 { dst := some 41, op := .extract (.tmp 34) 0, type := 27, pos := "more.go:42", after := #[{ on := 6, ground := .data }], guard := none } _ ?_
                try simp only [Act.put, List.setIfInBounds_toArray, List.set_cons_zero, List.set_cons_succ]
                refine tk 8 { dst := some 42, op := .extract (.tmp 34) 1, type := 35, pos := "more.go:42", after := #[{ on := 6, ground := .data }, { on := 10, ground := .gcOnly Go.Departure.lateStores }], guard := none } _ ?_
                try simp only [Act.put, List.setIfInBounds_toArray, List.set_cons_zero, List.set_cons_succ]
                refine wpAnyH_ready (rs := [9]) (by kernel_rfl) (by simp) ?_
                refine AllReadyH.cons (o := { dst := some 11, op := .alloc 27, type := 0, pos := "more.go:42", after := #[], guard := none }) rfl (fun KQ hKQ => ?_) AllReadyH.nil
                go_simp
                first | (have kz : Blk 27 (z1.alloc (.cells #[.int .u16 0, .int .u16 0, .int .u16 0, .int .i64 0, .int .i64 0, .int .u16 0, .int .u16 0, .int .u16 0, .int .i64 0, .int .i64 0, .bool false] 27)) z1.heap.size [.int .u16 0, .int .u16 0, .int .u16 0, .int .i64 0, .int .i64 0, .int .u16 0, .int .u16 0, .int .u16 0, .int .i64 0, .int .i64 0, .bool false] := heap_alloc_new z1 _; have hgz := pc.size; have pn := pc.alloc hgz (.cells #[.int .u16 0, .int .u16 0, .int .u16 0, .int .i64 0, .int .i64 0, .int .u16 0, .int .u16 0, .int .u16 0, .int .i64 0, .int .i64 0, .bool false] 27); generalize z1.heap.size = gz at *; generalize z1.alloc (.cells #[.int .u16 0, .int .u16 0, .int .u16 0, .int .i64 0, .int .i64 0, .int .u16 0, .int .u16 0, .int .u16 0, .int .i64 0, .int .i64 0, .bool false] 27) = za at *) | (have kz : Blk 27 ((wr.alloc (.cells #[.int .u16 0, .int .u16 0, .int .u16 0, .int .i64 0, .int .i64 0, .int .u16 0, .int .u16 0, .int .u16 0, .int .i64 0, .int .i64 0, .bool false] 27)).drew) wr.heap.size [.int .u16 0, .int .u16 0, .int .u16 0, .int .i64 0, .int .i64 0, .int .u16 0, .int .u16 0, .int .u16 0, .int .i64 0, .int .i64 0, .bool false] := Blk.drew (show Blk 27 (wr.alloc (.cells #[.int .u16 0, .int .u16 0, .int .u16 0, .int .i64 0, .int .i64 0, .int .u16 0, .int .u16 0, .int .u16 0, .int .i64 0, .int .i64 0, .bool false] 27)) wr.heap.size [.int .u16 0, .int .u16 0, .int .u16 0, .int .i64 0, .int .i64 0, .int .u16 0, .int .u16 0, .int .u16 0, .int .i64 0, .int .i64 0, .bool false] from heap_alloc_new wr _); have hgz : wr.heap.size ≤ wr.heap.size := Nat.le_refl _; have pn := ((Below.refl wr.heap.size wr).alloc (Nat.le_refl _) (.cells #[.int .u16 0, .int .u16 0, .int .u16 0, .int .i64 0, .int .i64 0, .int .u16 0, .int .u16 0, .int .u16 0, .int .i64 0, .int .i64 0, .bool false] 27)).drew; generalize hge : wr.heap.size = gz at *; generalize (wr.alloc (.cells #[.int .u16 0, .int .u16 0, .int .u16 0, .int .i64 0, .int .i64 0, .int .u16 0, .int .u16 0, .int .u16 0, .int .i64 0, .int .i64 0, .bool false] 27)).drew = za at *)
                clear pc
                have pc := pn
                clear pn
                have cz := blk11 kz
                have dfz := fun i => kz.frozen i
                have sa := HS2.out _ pc
                refine hKQ.out _ _ ?s_9a (fun hHeld9 => ?_)
                case s_9a => exact sa
                clear hKQ KQ
                try simp only [Act.put, List.setIfInBounds_toArray, List.set_cons_zero, List.set_cons_succ]
                refine wpAnyH_ready (rs := [10]) (by kernel_rfl) (by simp) ?_
                refine AllReadyH.cons (o := { dst := none, op := .store 27 (.tmp 11) (.tmp 41), type := 0, pos := "more.go:42", after := #[{ on := 9, ground := .data }, { on := 7, ground := .data }, { on := 5, ground := .chain }, { on := 0, ground := .phase }, { on := 1, ground := .phase }, { on := 2, ground := .phase }, { on := 3, ground := .phase }, { on := 4, ground := .phase }, { on := 5, ground := .phase }, { on := 6, ground := .phase }, { on := 7, ground := .phase }, { on := 8, ground := .textOnly Go.Departure.lateStores }, { on := 9, ground := .phase }], guard := none }) rfl (fun KQ hKQ => ?_) AllReadyH.nil
                go_simp
                have sF := put11 (.int .u16 (uv : Int)) (.int .u16 (xw : Int)) (.int .u16 (ul : Int)) (.int .i64 ue) (.int .i64 uk) (.int .u16 (xv : Int)) (.int .u16 (xw : Int)) (.int .u16 (xl : Int)) (.int .i64 xe) (.int .i64 xk) (.bool true) kz
                have bF := below11 (g := gz) (.int .u16 (uv : Int)) (.int .u16 (xw : Int)) (.int .u16 (ul : Int)) (.int .i64 ue) (.int .i64 uk) (.int .u16 (xv : Int)) (.int .u16 (xw : Int)) (.int .u16 (xl : Int)) (.int .i64 xe) (.int .i64 xk) (.bool true) pc hgz
                first | (have kk : Blk 27 za gz [.int .u16 0, .int .u16 0, .int .u16 0, .int .i64 0, .int .i64 0, .int .u16 0, .int .u16 0, .int .u16 0, .int .i64 0, .int .i64 0, .bool false] := kz; generalize (((((((((((za.setCell ⟨gz, 0, none⟩ (.int .u16 (uv : Int))).setCell ⟨gz, 1, none⟩ (.int .u16 (xw : Int))).setCell ⟨gz, 2, none⟩ (.int .u16 (ul : Int))).setCell ⟨gz, 3, none⟩ (.int .i64 ue)).setCell ⟨gz, 4, none⟩ (.int .i64 uk)).setCell ⟨gz, 5, none⟩ (.int .u16 (xv : Int))).setCell ⟨gz, 6, none⟩ (.int .u16 (xw : Int))).setCell ⟨gz, 7, none⟩ (.int .u16 (xl : Int))).setCell ⟨gz, 8, none⟩ (.int .i64 xe)).setCell ⟨gz, 9, none⟩ (.int .i64 xk)).setCell ⟨gz, 10, none⟩ (.bool true)) = wf at *) | (generalize (((((((((((z1.setCell ⟨gz, 0, none⟩ (.int .u16 (uv : Int))).setCell ⟨gz, 1, none⟩ (.int .u16 (xw : Int))).setCell ⟨gz, 2, none⟩ (.int .u16 (ul : Int))).setCell ⟨gz, 3, none⟩ (.int .i64 ue)).setCell ⟨gz, 4, none⟩ (.int .i64 uk)).setCell ⟨gz, 5, none⟩ (.int .u16 (xv : Int))).setCell ⟨gz, 6, none⟩ (.int .u16 (xw : Int))).setCell ⟨gz, 7, none⟩ (.int .u16 (xl : Int))).setCell ⟨gz, 8, none⟩ (.int .i64 xe)).setCell ⟨gz, 9, none⟩ (.int .i64 xk)).setCell ⟨gz, 10, none⟩ (.bool true)) = wf at *)
                have sS := HS2.out _ bF
                refine hKQ.out _ _ ?s_10a (fun hHeld10 => ?_)
                case s_10a => exact sS
                clear hKQ KQ
                try simp only [Act.put]
                refine tk 11 { dst := some 12, op := .assign (.tmp 42), type := 35, pos := "more.go:42", after := #[{ on := 8, ground := .data }, { on := 10, ground := .chain }, { on := 0, ground := .phase }, { on := 1, ground := .phase }, { on := 2, ground := .phase }, { on := 3, ground := .phase }, { on := 4, ground := .phase }, { on := 5, ground := .phase }, { on := 6, ground := .phase }, { on := 7, ground := .phase }, { on := 8, ground := .phase }, { on := 9, ground := .phase }, { on := 10, ground := .phase }], guard := none } _ ?_
                try simp only [Act.put, List.setIfInBounds_toArray, List.set_cons_zero, List.set_cons_succ]
                refine wpAnyH_done (by kernel_rfl) ?_ _
                go_wp2_with fail
                go_meet
                case rel => exact ⟨gz, rfl, rfl, hgz, sF, Lib.hid bF⟩
              · go_simp
                first | (have kz : Blk 27 (z1.alloc (.cells #[.int .u16 0, .int .u16 0, .int .u16 0, .int .i64 0, .int .i64 0, .int .u16 0, .int .u16 0, .int .u16 0, .int .i64 0, .int .i64 0, .bool false] 27)) z1.heap.size [.int .u16 0, .int .u16 0, .int .u16 0, .int .i64 0, .int .i64 0, .int .u16 0, .int .u16 0, .int .u16 0, .int .i64 0, .int .i64 0, .bool false] := heap_alloc_new z1 _; have hgz := pc.size; have pn := pc.alloc hgz (.cells #[.int .u16 0, .int .u16 0, .int .u16 0, .int .i64 0, .int .i64 0, .int .u16 0, .int .u16 0, .int .u16 0, .int .i64 0, .int .i64 0, .bool false] 27); generalize z1.heap.size = gz at *; generalize z1.alloc (.cells #[.int .u16 0, .int .u16 0, .int .u16 0, .int .i64 0, .int .i64 0, .int .u16 0, .int .u16 0, .int .u16 0, .int .i64 0, .int .i64 0, .bool false] 27) = za at *) | (have kz : Blk 27 ((wr.alloc (.cells #[.int .u16 0, .int .u16 0, .int .u16 0, .int .i64 0, .int .i64 0, .int .u16 0, .int .u16 0, .int .u16 0, .int .i64 0, .int .i64 0, .bool false] 27)).drew) wr.heap.size [.int .u16 0, .int .u16 0, .int .u16 0, .int .i64 0, .int .i64 0, .int .u16 0, .int .u16 0, .int .u16 0, .int .i64 0, .int .i64 0, .bool false] := Blk.drew (show Blk 27 (wr.alloc (.cells #[.int .u16 0, .int .u16 0, .int .u16 0, .int .i64 0, .int .i64 0, .int .u16 0, .int .u16 0, .int .u16 0, .int .i64 0, .int .i64 0, .bool false] 27)) wr.heap.size [.int .u16 0, .int .u16 0, .int .u16 0, .int .i64 0, .int .i64 0, .int .u16 0, .int .u16 0, .int .u16 0, .int .i64 0, .int .i64 0, .bool false] from heap_alloc_new wr _); have hgz : wr.heap.size ≤ wr.heap.size := Nat.le_refl _; have pn := ((Below.refl wr.heap.size wr).alloc (Nat.le_refl _) (.cells #[.int .u16 0, .int .u16 0, .int .u16 0, .int .i64 0, .int .i64 0, .int .u16 0, .int .u16 0, .int .u16 0, .int .i64 0, .int .i64 0, .bool false] 27)).drew; generalize hge : wr.heap.size = gz at *; generalize (wr.alloc (.cells #[.int .u16 0, .int .u16 0, .int .u16 0, .int .i64 0, .int .i64 0, .int .u16 0, .int .u16 0, .int .u16 0, .int .i64 0, .int .i64 0, .bool false] 27)).drew = za at *)
                clear pc
                have pc := pn
                clear pn
                have cz := blk11 kz
                have dfz := fun i => kz.frozen i
                have sa := HS2.out _ pc
                refine hKQ.out _ _ ?s_9b (fun hHeld9 => ?_)
                case s_9b => exact sa
                clear hKQ KQ
                try simp only [Act.put, List.setIfInBounds_toArray, List.set_cons_zero, List.set_cons_succ]
                refine wpAnyH_ready (rs := [5]) (by kernel_rfl) (by simp) ?_
                refine AllReadyH.cons (o := { dst := some 40, op := .call { callee := .value (.func 27), args := #[.tmp 35, .tmp 39], argTypes := #[27, 25] }, type := 36, pos := "more.go:42", after := #[{ on := 0, ground := .data }, { on := 4, ground := .data }], guard := none }) rfl (fun KQ hKQ => ?_) AllReadyH.nil
                go_simp
                refine (CH.out _).mono ?_
                rintro e z1 ⟨rfl, hZ1⟩
                have pn := pc.trans (hZ1.mono (by have h9 := pc.size; omega))
                clear pc
                have pc := pn
                clear pn
                (try have kz := kz.below hZ1 kz.lt)
                (try have cz := blk11 kz)
                (try have dfz := fun i => kz.frozen i)
                have sz := HS2.out _ pc
                go_wp2_with fail
                refine hKQ.out _ _ ?s_5b (fun hHeld5 => ?_)
                case s_5b => exact sz
                clear hKQ KQ
                try simp only [Act.put, List.setIfInBounds_toArray, List.set_cons_zero, List.set_cons_succ]
                refine tk 6 { dst := some 34, op := .move (.tmp 40), type := 36, pos := "more.go:42", after := #[{ on := 5, ground := .data }], guard := none } _ ?_
                try simp only [Act.put, List.setIfInBounds_toArray, List.set_cons_zero, List.set_cons_succ]
                refine tk 7 { dst := some 41, op := .extract (.tmp 34) 0, type := 27, pos := "more.go:42", after := #[{ on := 6, ground := .data }], guard := none } _ ?_
                try simp only [Act.put, List.setIfInBounds_toArray, List.set_cons_zero, List.set_cons_succ]
                refine tk 8 { dst := some 42, op := .extract (.tmp 34) 1, type := 35, pos := "more.go:42", after := #[{ on := 6, ground := .data }, { on := 10, ground := .gcOnly Go.Departure.lateStores }], guard := none } _ ?_
                try simp only [Act.put, List.setIfInBounds_toArray, List.set_cons_zero, List.set_cons_succ]
                refine wpAnyH_ready (rs := [10]) (by kernel_rfl) (by simp) ?_
                refine AllReadyH.cons (o := { dst := none, op := .store 27 (.tmp 11) (.tmp 41), type := 0, pos := "more.go:42", after := #[{ on := 9, ground := .data }, { on := 7, ground := .data }, { on := 5, ground := .chain }, { on := 0, ground := .phase }, { on := 1, ground := .phase }, { on := 2, ground := .phase }, { on := 3, ground := .phase }, { on := 4, ground := .phase }, { on := 5, ground := .phase }, { on := 6, ground := .phase }, { on := 7, ground := .phase }, { on := 8, ground := .textOnly Go.Departure.lateStores }, { on := 9, ground := .phase }], guard := none }) rfl (fun KQ hKQ => ?_) AllReadyH.nil
                go_simp
                have sF := put11 (.int .u16 (uv : Int)) (.int .u16 (xw : Int)) (.int .u16 (ul : Int)) (.int .i64 ue) (.int .i64 uk) (.int .u16 (xv : Int)) (.int .u16 (xw : Int)) (.int .u16 (xl : Int)) (.int .i64 xe) (.int .i64 xk) (.bool true) kz
                have bF := below11 (g := gz) (.int .u16 (uv : Int)) (.int .u16 (xw : Int)) (.int .u16 (ul : Int)) (.int .i64 ue) (.int .i64 uk) (.int .u16 (xv : Int)) (.int .u16 (xw : Int)) (.int .u16 (xl : Int)) (.int .i64 xe) (.int .i64 xk) (.bool true) pc hgz
                first | (have kk : Blk 27 za gz [.int .u16 0, .int .u16 0, .int .u16 0, .int .i64 0, .int .i64 0, .int .u16 0, .int .u16 0, .int .u16 0, .int .i64 0, .int .i64 0, .bool false] := kz; generalize (((((((((((za.setCell ⟨gz, 0, none⟩ (.int .u16 (uv : Int))).setCell ⟨gz, 1, none⟩ (.int .u16 (xw : Int))).setCell ⟨gz, 2, none⟩ (.int .u16 (ul : Int))).setCell ⟨gz, 3, none⟩ (.int .i64 ue)).setCell ⟨gz, 4, none⟩ (.int .i64 uk)).setCell ⟨gz, 5, none⟩ (.int .u16 (xv : Int))).setCell ⟨gz, 6, none⟩ (.int .u16 (xw : Int))).setCell ⟨gz, 7, none⟩ (.int .u16 (xl : Int))).setCell ⟨gz, 8, none⟩ (.int .i64 xe)).setCell ⟨gz, 9, none⟩ (.int .i64 xk)).setCell ⟨gz, 10, none⟩ (.bool true)) = wf at *) | (generalize (((((((((((z1.setCell ⟨gz, 0, none⟩ (.int .u16 (uv : Int))).setCell ⟨gz, 1, none⟩ (.int .u16 (xw : Int))).setCell ⟨gz, 2, none⟩ (.int .u16 (ul : Int))).setCell ⟨gz, 3, none⟩ (.int .i64 ue)).setCell ⟨gz, 4, none⟩ (.int .i64 uk)).setCell ⟨gz, 5, none⟩ (.int .u16 (xv : Int))).setCell ⟨gz, 6, none⟩ (.int .u16 (xw : Int))).setCell ⟨gz, 7, none⟩ (.int .u16 (xl : Int))).setCell ⟨gz, 8, none⟩ (.int .i64 xe)).setCell ⟨gz, 9, none⟩ (.int .i64 xk)).setCell ⟨gz, 10, none⟩ (.bool true)) = wf at *)
                have sS := HS2.out _ bF
                refine hKQ.out _ _ ?s_10b (fun hHeld10 => ?_)
                case s_10b => exact sS
                clear hKQ KQ
                try simp only [Act.put]
                refine tk 11 { dst := some 12, op := .assign (.tmp 42), type := 35, pos := "more.go:42", after := #[{ on := 8, ground := .data }, { on := 10, ground := .chain }, { on := 0, ground := .phase }, { on := 1, ground := .phase }, { on := 2, ground := .phase }, { on := 3, ground := .phase }, { on := 4, ground := .phase }, { on := 5, ground := .phase }, { on := 6, ground := .phase }, { on := 7, ground := .phase }, { on := 8, ground := .phase }, { on := 9, ground := .phase }, { on := 10, ground := .phase }], guard := none } _ ?_
                try simp only [Act.put, List.setIfInBounds_toArray, List.set_cons_zero, List.set_cons_succ]
                refine wpAnyH_done (by kernel_rfl) ?_ _
                go_wp2_with fail
                go_meet
                case rel => exact ⟨gz, rfl, rfl, hgz, sF, Lib.hid bF⟩
            case rest =>
              obtain ⟨g, rfl, rfl, hg_g, kN, hBc⟩ := hcut
              have K2 := KR.out.below hBc.out hs9
              have B2 := Lib.hid (hBr.trans (hBc.out.mono hBr.size))
              have hg : g < wc.heap.size := kN.lt
              have hs92 : p9 < wc.heap.size := K2.lt
              have HS3 : Hid (∀ wq, Below wc.heap.size wc wq → ((wq.cell? ⟨p9, 0, none⟩ = some (.int .u16 (uv : Int)) ∧ wq.cell? ⟨p9, 1, none⟩ = some (.int .u16 (xw : Int)) ∧ wq.cell? ⟨p9, 2, none⟩ = some (.int .u16 (ul : Int)) ∧ wq.cell? ⟨p9, 3, none⟩ = some (.int .i64 ue) ∧ wq.cell? ⟨p9, 4, none⟩ = some (.int .i64 uk) ∧ wq.cell? ⟨p9, 5, none⟩ = some (.int .u16 0) ∧ wq.cell? ⟨p9, 6, none⟩ = some (.int .u16 0) ∧ wq.cell? ⟨p9, 7, none⟩ = some (.int .u16 0) ∧ wq.cell? ⟨p9, 8, none⟩ = some (.int .i64 0) ∧ wq.cell? ⟨p9, 9, none⟩ = some (.int .i64 0) ∧ wq.cell? ⟨p9, 10, none⟩ = some (.bool false)) ∧ (wq.cell? ⟨tb, f + i * 5, none⟩ = some (.int .u16 (xv : Int)) ∧ wq.cell? ⟨tb, f + i * 5 + 1, none⟩ = some (.int .u16 (xw : Int)) ∧ wq.cell? ⟨tb, f + i * 5 + 2, none⟩ = some (.int .u16 (xl : Int)) ∧ wq.cell? ⟨tb, f + i * 5 + 3, none⟩ = some (.int .i64 xe) ∧ wq.cell? ⟨tb, f + i * 5 + 4, none⟩ = some (.int .i64 xk)) ∧ (wq.cell? ⟨w.heap.size, 0, none⟩ = some (.int .u16 (cv : Int)) ∧ wq.cell? ⟨w.heap.size, 1, none⟩ = some (.int .u16 (xw : Int)) ∧ wq.cell? ⟨w.heap.size, 2, none⟩ = some (.int .u16 (cl : Int)) ∧ wq.cell? ⟨w.heap.size, 3, none⟩ = some (.int .i64 ce) ∧ wq.cell? ⟨w.heap.size, 4, none⟩ = some (.int .i64 ck))) ∧ (wq.cell? ⟨g, 0, none⟩ = some (.int .u16 (uv : Int)) ∧ wq.cell? ⟨g, 1, none⟩ = some (.int .u16 (xw : Int)) ∧ wq.cell? ⟨g, 2, none⟩ = some (.int .u16 (ul : Int)) ∧ wq.cell? ⟨g, 3, none⟩ = some (.int .i64 ue) ∧ wq.cell? ⟨g, 4, none⟩ = some (.int .i64 uk) ∧ wq.cell? ⟨g, 5, none⟩ = some (.int .u16 (xv : Int)) ∧ wq.cell? ⟨g, 6, none⟩ = some (.int .u16 (xw : Int)) ∧ wq.cell? ⟨g, 7, none⟩ = some (.int .u16 (xl : Int)) ∧ wq.cell? ⟨g, 8, none⟩ = some (.int .i64 xe) ∧ wq.cell? ⟨g, 9, none⟩ = some (.int .i64 xk) ∧ wq.cell? ⟨g, 10, none⟩ = some (.bool true))) := fun wq hq => ⟨HS2.out wq (hBc.out.trans (hq.mono hBc.out.size)), blk11 (kN.below hq hg)⟩
              have K3 := Lib.hid K2
              clear kN hBc HS2 K2 CH
              generalize wc = w3 at *
              have q3 := Below.refl w3.heap.size w3
              have r3 := HS3.out _ q3
              go_upto_region 11 with (fail)
              go_wp2_with fail
              refine (FN.out _).mono ?_
              rintro e y1 ⟨rfl, hY1⟩
              have kf : Blk 27 (y1.alloc (.cells #[.int .u16 (xv : Int), .int .u16 (xw : Int), .int .u16 (xl : Int), .int .i64 xe, .int .i64 xk, .int .u16 0, .int .u16 0, .int .u16 0, .int .i64 0, .int .i64 0, .bool false] 27)) y1.heap.size [.int .u16 (xv : Int), .int .u16 (xw : Int), .int .u16 (xl : Int), .int .i64 xe, .int .i64 xk, .int .u16 0, .int .u16 0, .int .u16 0, .int .i64 0, .int .i64 0, .bool false] := heap_alloc_new y1 _
              have b4 := hY1.alloc hY1.size (.cells #[.int .u16 (xv : Int), .int .u16 (xw : Int), .int .u16 (xl : Int), .int .i64 xe, .int .i64 xk, .int .u16 0, .int .u16 0, .int .u16 0, .int .i64 0, .int .i64 0, .bool false] 27)
              go_upto_region 12 with (fail)
              generalize (y1.alloc (.cells #[.int .u16 (xv : Int), .int .u16 (xw : Int), .int .u16 (xl : Int), .int .i64 xe, .int .i64 xk, .int .u16 0, .int .u16 0, .int .u16 0, .int .i64 0, .int .i64 0, .bool false] 27)) = w4 at *
              have hg4 : y1.heap.size < w4.heap.size := kf.lt
              generalize y1.heap.size = g2 at *
              have HS4 : Hid (∀ wq, Below w4.heap.size w4 wq → (((wq.cell? ⟨p9, 0, none⟩ = some (.int .u16 (uv : Int)) ∧ wq.cell? ⟨p9, 1, none⟩ = some (.int .u16 (xw : Int)) ∧ wq.cell? ⟨p9, 2, none⟩ = some (.int .u16 (ul : Int)) ∧ wq.cell? ⟨p9, 3, none⟩ = some (.int .i64 ue) ∧ wq.cell? ⟨p9, 4, none⟩ = some (.int .i64 uk) ∧ wq.cell? ⟨p9, 5, none⟩ = some (.int .u16 0) ∧ wq.cell? ⟨p9, 6, none⟩ = some (.int .u16 0) ∧ wq.cell? ⟨p9, 7, none⟩ = some (.int .u16 0) ∧ wq.cell? ⟨p9, 8, none⟩ = some (.int .i64 0) ∧ wq.cell? ⟨p9, 9, none⟩ = some (.int .i64 0) ∧ wq.cell? ⟨p9, 10, none⟩ = some (.bool false)) ∧ (wq.cell? ⟨tb, f + i * 5, none⟩ = some (.int .u16 (xv : Int)) ∧ wq.cell? ⟨tb, f + i * 5 + 1, none⟩ = some (.int .u16 (xw : Int)) ∧ wq.cell? ⟨tb, f + i * 5 + 2, none⟩ = some (.int .u16 (xl : Int)) ∧ wq.cell? ⟨tb, f + i * 5 + 3, none⟩ = some (.int .i64 xe) ∧ wq.cell? ⟨tb, f + i * 5 + 4, none⟩ = some (.int .i64 xk)) ∧ (wq.cell? ⟨w.heap.size, 0, none⟩ = some (.int .u16 (cv : Int)) ∧ wq.cell? ⟨w.heap.size, 1, none⟩ = some (.int .u16 (xw : Int)) ∧ wq.cell? ⟨w.heap.size, 2, none⟩ = some (.int .u16 (cl : Int)) ∧ wq.cell? ⟨w.heap.size, 3, none⟩ = some (.int .i64 ce) ∧ wq.cell? ⟨w.heap.size, 4, none⟩ = some (.int .i64 ck))) ∧ (wq.cell? ⟨g, 0, none⟩ = some (.int .u16 (uv : Int)) ∧ wq.cell? ⟨g, 1, none⟩ = some (.int .u16 (xw : Int)) ∧ wq.cell? ⟨g, 2, none⟩ = some (.int .u16 (ul : Int)) ∧ wq.cell? ⟨g, 3, none⟩ = some (.int .i64 ue) ∧ wq.cell? ⟨g, 4, none⟩ = some (.int .i64 uk) ∧ wq.cell? ⟨g, 5, none⟩ = some (.int .u16 (xv : Int)) ∧ wq.cell? ⟨g, 6, none⟩ = some (.int .u16 (xw : Int)) ∧ wq.cell? ⟨g, 7, none⟩ = some (.int .u16 (xl : Int)) ∧ wq.cell? ⟨g, 8, none⟩ = some (.int .i64 xe) ∧ wq.cell? ⟨g, 9, none⟩ = some (.int .i64 xk) ∧ wq.cell? ⟨g, 10, none⟩ = some (.bool true))) ∧ (wq.cell? ⟨g2, 0, none⟩ = some (.int .u16 (xv : Int)) ∧ wq.cell? ⟨g2, 1, none⟩ = some (.int .u16 (xw : Int)) ∧ wq.cell? ⟨g2, 2, none⟩ = some (.int .u16 (xl : Int)) ∧ wq.cell? ⟨g2, 3, none⟩ = some (.int .i64 xe) ∧ wq.cell? ⟨g2, 4, none⟩ = some (.int .i64 xk) ∧ wq.cell? ⟨g2, 5, none⟩ = some (.int .u16 0) ∧ wq.cell? ⟨g2, 6, none⟩ = some (.int .u16 0) ∧ wq.cell? ⟨g2, 7, none⟩ = some (.int .u16 0) ∧ wq.cell? ⟨g2, 8, none⟩ = some (.int .i64 0) ∧ wq.cell? ⟨g2, 9, none⟩ = some (.int .i64 0) ∧ wq.cell? ⟨g2, 10, none⟩ = some (.bool false))) := fun wq hq => ⟨HS3.out wq (b4.trans (hq.mono b4.size)), blk11 (kf.below hq hg4)⟩
              have K4 := Lib.hid (K3.out.below b4 hs92)
              have B4 := Lib.hid (B2.out.trans (b4.mono B2.out.size))
              have HW3 := b4.size
              clear kf b4 hY1 r3 q3 HS3 K3 B2 FN
              have HS := HS4
              have q4 := Below.refl w4.heap.size w4
              have q51 := q4.drew
              refine wp_region_held_drew (S := fun wq => (((wq.cell? ⟨p9, 0, none⟩ = some (.int .u16 (uv : Int)) ∧ wq.cell? ⟨p9, 1, none⟩ = some (.int .u16 (xw : Int)) ∧ wq.cell? ⟨p9, 2, none⟩ = some (.int .u16 (ul : Int)) ∧ wq.cell? ⟨p9, 3, none⟩ = some (.int .i64 ue) ∧ wq.cell? ⟨p9, 4, none⟩ = some (.int .i64 uk) ∧ wq.cell? ⟨p9, 5, none⟩ = some (.int .u16 0) ∧ wq.cell? ⟨p9, 6, none⟩ = some (.int .u16 0) ∧ wq.cell? ⟨p9, 7, none⟩ = some (.int .u16 0) ∧ wq.cell? ⟨p9, 8, none⟩ = some (.int .i64 0) ∧ wq.cell? ⟨p9, 9, none⟩ = some (.int .i64 0) ∧ wq.cell? ⟨p9, 10, none⟩ = some (.bool false)) ∧ (wq.cell? ⟨tb, f + i * 5, none⟩ = some (.int .u16 (xv : Int)) ∧ wq.cell? ⟨tb, f + i * 5 + 1, none⟩ = some (.int .u16 (xw : Int)) ∧ wq.cell? ⟨tb, f + i * 5 + 2, none⟩ = some (.int .u16 (xl : Int)) ∧ wq.cell? ⟨tb, f + i * 5 + 3, none⟩ = some (.int .i64 xe) ∧ wq.cell? ⟨tb, f + i * 5 + 4, none⟩ = some (.int .i64 xk)) ∧ (wq.cell? ⟨w.heap.size, 0, none⟩ = some (.int .u16 (cv : Int)) ∧ wq.cell? ⟨w.heap.size, 1, none⟩ = some (.int .u16 (xw : Int)) ∧ wq.cell? ⟨w.heap.size, 2, none⟩ = some (.int .u16 (cl : Int)) ∧ wq.cell? ⟨w.heap.size, 3, none⟩ = some (.int .i64 ce) ∧ wq.cell? ⟨w.heap.size, 4, none⟩ = some (.int .i64 ck))) ∧ (wq.cell? ⟨g, 0, none⟩ = some (.int .u16 (uv : Int)) ∧ wq.cell? ⟨g, 1, none⟩ = some (.int .u16 (xw : Int)) ∧ wq.cell? ⟨g, 2, none⟩ = some (.int .u16 (ul : Int)) ∧ wq.cell? ⟨g, 3, none⟩ = some (.int .i64 ue) ∧ wq.cell? ⟨g, 4, none⟩ = some (.int .i64 uk) ∧ wq.cell? ⟨g, 5, none⟩ = some (.int .u16 (xv : Int)) ∧ wq.cell? ⟨g, 6, none⟩ = some (.int .u16 (xw : Int)) ∧ wq.cell? ⟨g, 7, none⟩ = some (.int .u16 (xl : Int)) ∧ wq.cell? ⟨g, 8, none⟩ = some (.int .i64 xe) ∧ wq.cell? ⟨g, 9, none⟩ = some (.int .i64 xk) ∧ wq.cell? ⟨g, 10, none⟩ = some (.bool true))) ∧ (wq.cell? ⟨g2, 0, none⟩ = some (.int .u16 (xv : Int)) ∧ wq.cell? ⟨g2, 1, none⟩ = some (.int .u16 (xw : Int)) ∧ wq.cell? ⟨g2, 2, none⟩ = some (.int .u16 (xl : Int)) ∧ wq.cell? ⟨g2, 3, none⟩ = some (.int .i64 xe) ∧ wq.cell? ⟨g2, 4, none⟩ = some (.int .i64 xk) ∧ wq.cell? ⟨g2, 5, none⟩ = some (.int .u16 0) ∧ wq.cell? ⟨g2, 6, none⟩ = some (.int .u16 0) ∧ wq.cell? ⟨g2, 7, none⟩ = some (.int .u16 0) ∧ wq.cell? ⟨g2, 8, none⟩ = some (.int .i64 0) ∧ wq.cell? ⟨g2, 9, none⟩ = some (.int .i64 0) ∧ wq.cell? ⟨g2, 10, none⟩ = some (.bool false))) (by kernel_rfl) ?s_chn12 (fun hHeld => ?_)
              case s_chn12 => exact HS.out _ q51
              refine tk 0 { dst := some 47, op := .load 27 (.tmp 11), type := 27, pos := "more.go:47", after := #[], guard := none } _ ?_
              try simp only [Act.put, List.setIfInBounds_toArray, List.set_cons_zero, List.set_cons_succ]
              refine wpAnyH_ready (rs := [1]) (by kernel_rfl) (by simp) ?_
              refine AllReadyH.cons (o := { dst := some 48, op := .call { callee := .value (.func 13), args := #[.tmp 47], argTypes := #[27] }, type := 4, pos := "more.go:47", after := #[{ on := 0, ground := .data }], guard := none }) rfl (fun KQ hKQ => ?_) AllReadyH.nil
              go_simp
              refine (MN.out _).mono ?_
              rintro e y52 ⟨rfl, hY52⟩
              have q52 := q51.trans (hY52.mono q51.size)
              have r52 := HS.out _ q52
              go_wp2_with fail
              refine hKQ.out _ _ ?s_1 (fun hHeld1 => ?_)
              case s_1 => exact r52
              clear hKQ KQ
              try simp only [Act.put, List.setIfInBounds_toArray, List.set_cons_zero, List.set_cons_succ]
              refine tk 2 { dst := some 49, op := .unOp .not 4 (.tmp 48), type := 4, pos := "more.go:47", after := #[{ on := 1, ground := .data }], guard := none } _ ?_
              try simp only [Act.put, List.setIfInBounds_toArray, List.set_cons_zero, List.set_cons_succ]
              refine tk 3 { dst := some 50, op := .move (.tmp 49), type := 4, pos := "more.go:47", after := #[{ on := 2, ground := .data }, { on := 1, ground := .chain }], guard := none } _ ?_
              try simp only [Act.put, List.setIfInBounds_toArray, List.set_cons_zero, List.set_cons_succ]
              refine tk 4 { dst := some 51, op := .load 27 (.tmp 13), type := 27, pos := "more.go:47", after := #[{ on := 3, ground := .guard }], guard := some (3, false) } _ ?_
              try simp only [Act.put, List.setIfInBounds_toArray, List.set_cons_zero, List.set_cons_succ]
              refine wpAnyH_ready (rs := [5]) (by kernel_rfl) (by simp) ?_
              refine AllReadyH.cons (o := { dst := some 52, op := .call { callee := .value (.func 13), args := #[.tmp 51], argTypes := #[27] }, type := 4, pos := "more.go:47", after := #[{ on := 4, ground := .data }, { on := 3, ground := .chain }, { on := 3, ground := .guard }], guard := some (3, false) }) rfl (fun KQ hKQ => ?_) AllReadyH.nil
              go_simp
              refine (MF.out _).mono ?_
              rintro e y53 ⟨rfl, hY53⟩
              have q53 := q52.trans (hY53.mono q52.size)
              have r53 := HS.out _ q53
              go_wp2_with fail
              refine hKQ.out _ _ ?s_5 (fun hHeld5 => ?_)
              case s_5 => exact r53
              clear hKQ KQ
              try simp only [Act.put, List.setIfInBounds_toArray, List.set_cons_zero, List.set_cons_succ]
              refine tk 6 { dst := some 53, op := .unOp .not 4 (.tmp 52), type := 4, pos := "more.go:47", after := #[{ on := 5, ground := .data }, { on := 3, ground := .guard }], guard := some (3, false) } _ ?_
              try simp only [Act.put, List.setIfInBounds_toArray, List.set_cons_zero, List.set_cons_succ]
              refine tk 7 { dst := some 54, op := .pick (.tmp 50) (.const (.bool true)) (.tmp 53), type := 4, pos := "more.go:47", after := #[{ on := 3, ground := .data }, { on := 6, ground := .data }], guard := none } _ ?_
              try simp only [Act.put, List.setIfInBounds_toArray, List.set_cons_zero, List.set_cons_succ]
              refine tk 8 { dst := some 55, op := .move (.tmp 54), type := 4, pos := "more.go:47", after := #[{ on := 7, ground := .data }, { on := 5, ground := .chain }], guard := none } _ ?_
              try simp only [Act.put, List.setIfInBounds_toArray, List.set_cons_zero, List.set_cons_succ]
              refine tk 9 { dst := some 56, op := .fieldAddr 27 (.tmp 13) 2, type := 0, pos := "more.go:47", after := #[{ on := 8, ground := .guard }], guard := some (8, false) } _ ?_
              try simp only [Act.put, List.setIfInBounds_toArray, List.set_cons_zero, List.set_cons_succ]
              refine tk 10 { dst := some 57, op := .load 4 (.tmp 56), type := 4, pos := "more.go:47", after := #[{ on := 9, ground := .data }, { on := 8, ground := .guard }], guard := some (8, false) } _ ?_
              try simp only [Act.put, List.setIfInBounds_toArray, List.set_cons_zero, List.set_cons_succ]
              refine tk 11 { dst := some 58, op := .pick (.tmp 55) (.const (.bool true)) (.tmp 57), type := 4, pos := "more.go:47", after := #[{ on := 8, ground := .data }, { on := 10, ground := .data }], guard := none } _ ?_
              try simp only [Act.put, List.setIfInBounds_toArray, List.set_cons_zero, List.set_cons_succ]
              refine tk 12 { dst := some 59, op := .move (.tmp 58), type := 4, pos := "more.go:47", after := #[{ on := 11, ground := .data }, { on := 8, ground := .chain }], guard := none } _ ?_
              try simp only [Act.put, List.setIfInBounds_toArray, List.set_cons_zero, List.set_cons_succ]
              refine tk 13 { dst := some 60, op := .fieldAddr 27 (.tmp 13) 0, type := 0, pos := "more.go:47", after := #[{ on := 12, ground := .guard }], guard := some (12, false) } _ ?_
              try simp only [Act.put, List.setIfInBounds_toArray, List.set_cons_zero, List.set_cons_succ]
              refine tk 14 { dst := some 61, op := .load 25 (.tmp 60), type := 25, pos := "more.go:47", after := #[{ on := 13, ground := .data }, { on := 12, ground := .guard }], guard := some (12, false) } _ ?_
              try simp only [Act.put, List.setIfInBounds_toArray, List.set_cons_zero, List.set_cons_succ]
              refine tk 15 { dst := some 62, op := .move (.tmp 1), type := 46, pos := "more.go:47", after := #[{ on := 12, ground := .guard }], guard := some (12, false) } _ ?_
              try simp only [Act.put, List.setIfInBounds_toArray, List.set_cons_zero, List.set_cons_succ]
              refine tk 16 { dst := some 63, op := .move (.tmp 10), type := 3, pos := "more.go:47", after := #[{ on := 12, ground := .guard }], guard := some (12, false) } _ ?_
              try simp only [Act.put, List.setIfInBounds_toArray, List.set_cons_zero, List.set_cons_succ]
              refine tk 17 { dst := some 64, op := .indexAddr 46 (.tmp 62) (.tmp 63), type := 0, pos := "more.go:47", after := #[{ on := 15, ground := .data }, { on := 16, ground := .data }, { on := 12, ground := .guard }], guard := some (12, false) } _ ?_
              try simp only [Act.put, List.setIfInBounds_toArray, List.set_cons_zero, List.set_cons_succ]
              refine tk 18 { dst := some 65, op := .load 25 (.tmp 64), type := 25, pos := "more.go:47", after := #[{ on := 17, ground := .data }, { on := 12, ground := .guard }], guard := some (12, false) } _ ?_
              try simp only [Act.put, List.setIfInBounds_toArray, List.set_cons_zero, List.set_cons_succ]
              refine tk 19 { dst := some 66, op := .binOp .neq 25 (.tmp 61) (.tmp 65) 25, type := 4, pos := "more.go:47", after := #[{ on := 14, ground := .data }, { on := 18, ground := .data }, { on := 12, ground := .guard }], guard := some (12, false) } _ ?_
              try simp only [Act.put, List.setIfInBounds_toArray, List.set_cons_zero, List.set_cons_succ]
              refine tk 20 { dst := some 67, op := .pick (.tmp 59) (.const (.bool true)) (.tmp 66), type := 4, pos := "more.go:47", after := #[{ on := 12, ground := .data }, { on := 19, ground := .data }], guard := none } _ ?_
              try simp only [Act.put, List.setIfInBounds_toArray, List.set_cons_zero, List.set_cons_succ]
              refine tk 21 { dst := some 68, op := .move (.tmp 67), type := 4, pos := "more.go:47", after := #[{ on := 20, ground := .data }, { on := 12, ground := .chain }], guard := none } _ ?_
              try simp only [Act.put, List.setIfInBounds_toArray, List.set_cons_zero, List.set_cons_succ]
              refine tk 22 { dst := some 69, op := .fieldAddr 27 (.tmp 13) 0, type := 0, pos := "more.go:47", after := #[{ on := 21, ground := .guard }], guard := some (21, false) } _ ?_
              try simp only [Act.put, List.setIfInBounds_toArray, List.set_cons_zero, List.set_cons_succ]
              refine tk 23 { dst := some 70, op := .fieldAddr 25 (.tmp 69) 1, type := 0, pos := "more.go:47", after := #[{ on := 22, ground := .data }, { on := 21, ground := .guard }], guard := some (21, false) } _ ?_
              try simp only [Act.put, List.setIfInBounds_toArray, List.set_cons_zero, List.set_cons_succ]
              refine tk 24 { dst := some 71, op := .load 23 (.tmp 70), type := 23, pos := "more.go:47", after := #[{ on := 23, ground := .data }, { on := 21, ground := .guard }], guard := some (21, false) } _ ?_
              try simp only [Act.put, List.setIfInBounds_toArray, List.set_cons_zero, List.set_cons_succ]
              refine tk 25 { dst := some 72, op := .fieldAddr 25 (.tmp 4) 1, type := 0, pos := "more.go:47", after := #[{ on := 21, ground := .guard }], guard := some (21, false) } _ ?_
              try simp only [Act.put, List.setIfInBounds_toArray, List.set_cons_zero, List.set_cons_succ]
              refine tk 26 { dst := some 73, op := .load 23 (.tmp 72), type := 23, pos := "more.go:47", after := #[{ on := 25, ground := .data }, { on := 21, ground := .guard }], guard := some (21, false) } _ ?_
              try simp only [Act.put, List.setIfInBounds_toArray, List.set_cons_zero, List.set_cons_succ]
              refine tk 27 { dst := some 74, op := .binOp .neq 23 (.tmp 71) (.tmp 73) 23, type := 4, pos := "more.go:47", after := #[{ on := 24, ground := .data }, { on := 26, ground := .data }, { on := 21, ground := .guard }], guard := some (21, false) } _ ?_
              try simp only [Act.put, List.setIfInBounds_toArray, List.set_cons_zero, List.set_cons_succ]
              refine tk 28 { dst := some 75, op := .pick (.tmp 68) (.const (.bool true)) (.tmp 74), type := 4, pos := "more.go:47", after := #[{ on := 21, ground := .data }, { on := 27, ground := .data }], guard := none } _ ?_
              try simp only [Act.put, List.setIfInBounds_toArray, List.set_cons_zero, List.set_cons_succ]
              refine tk 29 { dst := some 76, op := .move (.tmp 75), type := 4, pos := "more.go:47", after := #[{ on := 28, ground := .data }, { on := 21, ground := .chain }], guard := none } _ ?_
              try simp only [Act.put, List.setIfInBounds_toArray, List.set_cons_zero, List.set_cons_succ]
              refine tk 30 { dst := some 77, op := .fieldAddr 27 (.tmp 11) 0, type := 0, pos := "more.go:47", after := #[{ on := 29, ground := .guard }], guard := some (29, false) } _ ?_
              try simp only [Act.put, List.setIfInBounds_toArray, List.set_cons_zero, List.set_cons_succ]
              refine tk 31 { dst := some 78, op := .load 25 (.tmp 77), type := 25, pos := "more.go:47", after := #[{ on := 30, ground := .data }, { on := 29, ground := .guard }], guard := some (29, false) } _ ?_
              try simp only [Act.put, List.setIfInBounds_toArray, List.set_cons_zero, List.set_cons_succ]
              refine tk 32 { dst := some 79, op := .fieldAddr 27 (.tmp 9) 0, type := 0, pos := "more.go:47", after := #[{ on := 29, ground := .guard }], guard := some (29, false) } _ ?_
              try simp only [Act.put, List.setIfInBounds_toArray, List.set_cons_zero, List.set_cons_succ]
              refine tk 33 { dst := some 80, op := .load 25 (.tmp 79), type := 25, pos := "more.go:47", after := #[{ on := 32, ground := .data }, { on := 29, ground := .guard }], guard := some (29, false) } _ ?_
              try simp only [Act.put, List.setIfInBounds_toArray, List.set_cons_zero, List.set_cons_succ]
              refine tk 34 { dst := some 81, op := .binOp .neq 25 (.tmp 78) (.tmp 80) 25, type := 4, pos := "more.go:47", after := #[{ on := 31, ground := .data }, { on := 33, ground := .data }, { on := 29, ground := .guard }], guard := some (29, false) } _ ?_
              try simp only [Act.put, List.setIfInBounds_toArray, List.set_cons_zero, List.set_cons_succ]
              refine tk 35 { dst := some 82, op := .pick (.tmp 76) (.const (.bool true)) (.tmp 81), type := 4, pos := "more.go:47", after := #[{ on := 29, ground := .data }, { on := 34, ground := .data }], guard := none } _ ?_
              try simp only [Act.put, List.setIfInBounds_toArray, List.set_cons_zero, List.set_cons_succ]
              refine wpAnyH_done (by kernel_rfl) ?_ _
              go_upto_region 14 with (fail)
              have rr := HS.out _ q53
              clear MN MF r52 r53
              have HQ := Lib.hid q53
              go_cut [101] from 200 (fun s wx => s = .bool false ∧ Hid (Below w4.heap.size w4 wx))
              case first =>
                cases e1
                · go_wp2_with fail
                  refine (E1.out _).mono ?_
                  rintro e y54 ⟨rfl, hY54⟩
                  have q54 := q53.trans (hY54.mono q53.size)
                  have r54 := HS.out _ q54
                  clear rr
                  go_wp2_with fail
                  go_meet
                  case rel => exact ⟨by first | rfl | simp, Lib.hid q54⟩
                · cases c1
                  · cases c2
                    · go_wp2_with fail
                      refine (E1.out _).mono ?_
                      rintro e y54 ⟨rfl, hY54⟩
                      have q54 := q53.trans (hY54.mono q53.size)
                      have r54 := HS.out _ q54
                      clear rr
                      go_wp2_with fail
                      refine (C1.out _).mono ?_
                      rintro e y55 ⟨rfl, hY55⟩
                      have q55 := q54.trans (hY55.mono q54.size)
                      have r55 := HS.out _ q55
                      clear r54
                      go_wp2_with fail
                      refine (C2.out _).mono ?_
                      rintro e y56 ⟨rfl, hY56⟩
                      have q56 := q55.trans (hY56.mono q55.size)
                      have r56 := HS.out _ q56
                      clear r55
                      go_wp2_with fail
                      go_meet
                      case rel => exact ⟨by first | rfl | simp, Lib.hid q56⟩
                    · have hz := HZ.out rfl (.inr rfl)
                      have g7 : ((z : Int) == 0) = false := by rw [beq_eq_false_iff_ne]; omega
                      go_wp2_with fail
                      refine (E1.out _).mono ?_
                      rintro e y54 ⟨rfl, hY54⟩
                      have q54 := q53.trans (hY54.mono q53.size)
                      have r54 := HS.out _ q54
                      clear rr
                      go_wp2_with fail
                      refine (C1.out _).mono ?_
                      rintro e y55 ⟨rfl, hY55⟩
                      have q55 := q54.trans (hY55.mono q54.size)
                      have r55 := HS.out _ q55
                      clear r54
                      go_wp2_with fail
                      refine (C2.out _).mono ?_
                      rintro e y56 ⟨rfl, hY56⟩
                      have q56 := q55.trans (hY56.mono q55.size)
                      have r56 := HS.out _ q56
                      clear r55
                      go_wp2_with fail
                      refine (CX.out _).mono ?_
                      rintro e y57 ⟨rfl, rfl⟩
                      go_wp2_with fail
                      go_meet
                      case rel => exact ⟨by first | rfl | simp, Lib.hid q56⟩
                  · have hz := HZ.out rfl (.inl rfl)
                    have g7 : ((z : Int) == 0) = false := by rw [beq_eq_false_iff_ne]; omega
                    go_wp2_with fail
                    refine (E1.out _).mono ?_
                    rintro e y54 ⟨rfl, hY54⟩
                    have q54 := q53.trans (hY54.mono q53.size)
                    have r54 := HS.out _ q54
                    clear rr
                    go_wp2_with fail
                    refine (C1.out _).mono ?_
                    rintro e y55 ⟨rfl, hY55⟩
                    have q55 := q54.trans (hY55.mono q54.size)
                    have r55 := HS.out _ q55
                    clear r54
                    go_wp2_with fail
                    refine (CX.out _).mono ?_
                    rintro e y56 ⟨rfl, rfl⟩
                    go_wp2_with fail
                    go_meet
                    case rel => exact ⟨by first | rfl | simp, Lib.hid q55⟩
              case rest =>
                obtain ⟨rfl, hBq⟩ := hcut
                have q99 := hBq.out
                clear hBq
                generalize wc = y99 at *
                have K5 := Lib.hid (K4.out.below q99 (Nat.lt_of_lt_of_le hs92 HW3))
                have B5 := Lib.hid (B4.out.trans (q99.mono B4.out.size))
                have HS5 : Hid (∀ wq, Below y99.heap.size y99 wq → (((wq.cell? ⟨p9, 0, none⟩ = some (.int .u16 (uv : Int)) ∧ wq.cell? ⟨p9, 1, none⟩ = some (.int .u16 (xw : Int)) ∧ wq.cell? ⟨p9, 2, none⟩ = some (.int .u16 (ul : Int)) ∧ wq.cell? ⟨p9, 3, none⟩ = some (.int .i64 ue) ∧ wq.cell? ⟨p9, 4, none⟩ = some (.int .i64 uk) ∧ wq.cell? ⟨p9, 5, none⟩ = some (.int .u16 0) ∧ wq.cell? ⟨p9, 6, none⟩ = some (.int .u16 0) ∧ wq.cell? ⟨p9, 7, none⟩ = some (.int .u16 0) ∧ wq.cell? ⟨p9, 8, none⟩ = some (.int .i64 0) ∧ wq.cell? ⟨p9, 9, none⟩ = some (.int .i64 0) ∧ wq.cell? ⟨p9, 10, none⟩ = some (.bool false)) ∧ (wq.cell? ⟨tb, f + i * 5, none⟩ = some (.int .u16 (xv : Int)) ∧ wq.cell? ⟨tb, f + i * 5 + 1, none⟩ = some (.int .u16 (xw : Int)) ∧ wq.cell? ⟨tb, f + i * 5 + 2, none⟩ = some (.int .u16 (xl : Int)) ∧ wq.cell? ⟨tb, f + i * 5 + 3, none⟩ = some (.int .i64 xe) ∧ wq.cell? ⟨tb, f + i * 5 + 4, none⟩ = some (.int .i64 xk)) ∧ (wq.cell? ⟨w.heap.size, 0, none⟩ = some (.int .u16 (cv : Int)) ∧ wq.cell? ⟨w.heap.size, 1, none⟩ = some (.int .u16 (xw : Int)) ∧ wq.cell? ⟨w.heap.size, 2, none⟩ = some (.int .u16 (cl : Int)) ∧ wq.cell? ⟨w.heap.size, 3, none⟩ = some (.int .i64 ce) ∧ wq.cell? ⟨w.heap.size, 4, none⟩ = some (.int .i64 ck))) ∧ (wq.cell? ⟨g, 0, none⟩ = some (.int .u16 (uv : Int)) ∧ wq.cell? ⟨g, 1, none⟩ = some (.int .u16 (xw : Int)) ∧ wq.cell? ⟨g, 2, none⟩ = some (.int .u16 (ul : Int)) ∧ wq.cell? ⟨g, 3, none⟩ = some (.int .i64 ue) ∧ wq.cell? ⟨g, 4, none⟩ = some (.int .i64 uk) ∧ wq.cell? ⟨g, 5, none⟩ = some (.int .u16 (xv : Int)) ∧ wq.cell? ⟨g, 6, none⟩ = some (.int .u16 (xw : Int)) ∧ wq.cell? ⟨g, 7, none⟩ = some (.int .u16 (xl : Int)) ∧ wq.cell? ⟨g, 8, none⟩ = some (.int .i64 xe) ∧ wq.cell? ⟨g, 9, none⟩ = some (.int .i64 xk) ∧ wq.cell? ⟨g, 10, none⟩ = some (.bool true))) ∧ (wq.cell? ⟨g2, 0, none⟩ = some (.int .u16 (xv : Int)) ∧ wq.cell? ⟨g2, 1, none⟩ = some (.int .u16 (xw : Int)) ∧ wq.cell? ⟨g2, 2, none⟩ = some (.int .u16 (xl : Int)) ∧ wq.cell? ⟨g2, 3, none⟩ = some (.int .i64 xe) ∧ wq.cell? ⟨g2, 4, none⟩ = some (.int .i64 xk) ∧ wq.cell? ⟨g2, 5, none⟩ = some (.int .u16 0) ∧ wq.cell? ⟨g2, 6, none⟩ = some (.int .u16 0) ∧ wq.cell? ⟨g2, 7, none⟩ = some (.int .u16 0) ∧ wq.cell? ⟨g2, 8, none⟩ = some (.int .i64 0) ∧ wq.cell? ⟨g2, 9, none⟩ = some (.int .i64 0) ∧ wq.cell? ⟨g2, 10, none⟩ = some (.bool false))) := fun wq hq => HS.out wq (q99.trans (hq.mono q99.size))
                have hs95 : p9 < y99.heap.size := K5.out.lt
                clear HS HS4 K4 B4 E1 C1 C2 CX HZ rr
                generalize y99 = w5 at *
                go_upto_region 16 with (fail)
                go_cut [14, 15] from 200 (fun sa sb wx => ∃ g, sa = .pointer (some ⟨g, 0, none⟩) ∧ sb = .int .i64 10 ∧ w5.heap.size ≤ g ∧ Blk 27 wx g [.int .u16 0, .int .u16 0, .int .u16 0, .int .i64 0, .int .i64 0, .int .u16 0, .int .u16 0, .int .u16 0, .int .i64 0, .int .i64 0, .bool false] ∧ Hid (Below w5.heap.size w5 wx))
                case first =>
                  have p0 : Below w5.heap.size w5 w5.drew := (Below.refl _ _).drew
                  refine wp_region_held_drew (S := fun wq => (((wq.cell? ⟨p9, 0, none⟩ = some (.int .u16 (uv : Int)) ∧ wq.cell? ⟨p9, 1, none⟩ = some (.int .u16 (xw : Int)) ∧ wq.cell? ⟨p9, 2, none⟩ = some (.int .u16 (ul : Int)) ∧ wq.cell? ⟨p9, 3, none⟩ = some (.int .i64 ue) ∧ wq.cell? ⟨p9, 4, none⟩ = some (.int .i64 uk) ∧ wq.cell? ⟨p9, 5, none⟩ = some (.int .u16 0) ∧ wq.cell? ⟨p9, 6, none⟩ = some (.int .u16 0) ∧ wq.cell? ⟨p9, 7, none⟩ = some (.int .u16 0) ∧ wq.cell? ⟨p9, 8, none⟩ = some (.int .i64 0) ∧ wq.cell? ⟨p9, 9, none⟩ = some (.int .i64 0) ∧ wq.cell? ⟨p9, 10, none⟩ = some (.bool false)) ∧ (wq.cell? ⟨tb, f + i * 5, none⟩ = some (.int .u16 (xv : Int)) ∧ wq.cell? ⟨tb, f + i * 5 + 1, none⟩ = some (.int .u16 (xw : Int)) ∧ wq.cell? ⟨tb, f + i * 5 + 2, none⟩ = some (.int .u16 (xl : Int)) ∧ wq.cell? ⟨tb, f + i * 5 + 3, none⟩ = some (.int .i64 xe) ∧ wq.cell? ⟨tb, f + i * 5 + 4, none⟩ = some (.int .i64 xk)) ∧ (wq.cell? ⟨w.heap.size, 0, none⟩ = some (.int .u16 (cv : Int)) ∧ wq.cell? ⟨w.heap.size, 1, none⟩ = some (.int .u16 (xw : Int)) ∧ wq.cell? ⟨w.heap.size, 2, none⟩ = some (.int .u16 (cl : Int)) ∧ wq.cell? ⟨w.heap.size, 3, none⟩ = some (.int .i64 ce) ∧ wq.cell? ⟨w.heap.size, 4, none⟩ = some (.int .i64 ck))) ∧ (wq.cell? ⟨g, 0, none⟩ = some (.int .u16 (uv : Int)) ∧ wq.cell? ⟨g, 1, none⟩ = some (.int .u16 (xw : Int)) ∧ wq.cell? ⟨g, 2, none⟩ = some (.int .u16 (ul : Int)) ∧ wq.cell? ⟨g, 3, none⟩ = some (.int .i64 ue) ∧ wq.cell? ⟨g, 4, none⟩ = some (.int .i64 uk) ∧ wq.cell? ⟨g, 5, none⟩ = some (.int .u16 (xv : Int)) ∧ wq.cell? ⟨g, 6, none⟩ = some (.int .u16 (xw : Int)) ∧ wq.cell? ⟨g, 7, none⟩ = some (.int .u16 (xl : Int)) ∧ wq.cell? ⟨g, 8, none⟩ = some (.int .i64 xe) ∧ wq.cell? ⟨g, 9, none⟩ = some (.int .i64 xk) ∧ wq.cell? ⟨g, 10, none⟩ = some (.bool true))) ∧ (wq.cell? ⟨g2, 0, none⟩ = some (.int .u16 (xv : Int)) ∧ wq.cell? ⟨g2, 1, none⟩ = some (.int .u16 (xw : Int)) ∧ wq.cell? ⟨g2, 2, none⟩ = some (.int .u16 (xl : Int)) ∧ wq.cell? ⟨g2, 3, none⟩ = some (.int .i64 xe) ∧ wq.cell? ⟨g2, 4, none⟩ = some (.int .i64 xk) ∧ wq.cell? ⟨g2, 5, none⟩ = some (.int .u16 0) ∧ wq.cell? ⟨g2, 6, none⟩ = some (.int .u16 0) ∧ wq.cell? ⟨g2, 7, none⟩ = some (.int .u16 0) ∧ wq.cell? ⟨g2, 8, none⟩ = some (.int .i64 0) ∧ wq.cell? ⟨g2, 9, none⟩ = some (.int .i64 0) ∧ wq.cell? ⟨g2, 10, none⟩ = some (.bool false))) (by kernel_rfl) ?s_chn16 (fun hHeld => ?_)
                  case s_chn16 => exact HS5.out _ p0
                  have pc := p0
                  clear p0
                  refine tk 0 { dst := some 103, op := .load 27 (.tmp 11), type := 27, pos := "more.go:53", after := #[], guard := none } _ ?_
                  try simp only [Act.put, List.setIfInBounds_toArray, List.set_cons_zero, List.set_cons_succ]
                  refine tk 1 { dst := some 104, op := .move (.tmp 1), type := 46, pos := "more.go:53", after := #[], guard := none } _ ?_
                  try simp only [Act.put, List.setIfInBounds_toArray, List.set_cons_zero, List.set_cons_succ]
                  refine tk 2 { dst := some 105, op := .move (.tmp 10), type := 3, pos := "more.go:53", after := #[], guard := none } _ ?_
                  try simp only [Act.put, List.setIfInBounds_toArray, List.set_cons_zero, List.set_cons_succ]
                  refine tk 3 { dst := some 106, op := .indexAddr 46 (.tmp 104) (.tmp 105), type := 0, pos := "more.go:53", after := #[{ on := 1, ground := .data }, { on := 2, ground := .data }], guard := none } _ ?_
                  try simp only [Act.put, List.setIfInBounds_toArray, List.set_cons_zero, List.set_cons_succ]
                  refine tk 4 { dst := some 107, op := .load 25 (.tmp 106), type := 25, pos := "more.go:53", after := #[{ on := 3, ground := .data }], guard := none } _ ?_
                  try simp only [Act.put, List.setIfInBounds_toArray, List.set_cons_zero, List.set_cons_succ]
                  refine wpAnyH_ready (rs := [5, 9]) (by kernel_rfl) (by simp) ?_
                  refine AllReadyH.cons (o := { dst := some 108, op := .call { callee := .value (.func 27), args := #[.tmp 103, .tmp 107], argTypes := #[27, 25] }, type := 36, pos := "more.go:53", after := #[{ on := 0, ground := .data }, { on := 4, ground := .data }], guard := none }) rfl (fun KQ hKQ => ?_) (AllReadyH.cons (o := { dst := some 14, op := .alloc 27, type := 0, pos := "more.go:53", after := #[], guard := none }) rfl (fun KQ hKQ => ?_) AllReadyH.nil)
                  · go_simp
                    refine (CA.out _).mono ?_
                    rintro e z1 ⟨rfl, hZ1⟩
                    have pn := pc.trans (hZ1.mono (by have h9 := pc.size; omega))
                    clear pc
                    have pc := pn
                    clear pn
                    (try have kz := kz.below hZ1 kz.lt)
                    (try have cz := blk11 kz)
                    (try have dfz := fun i => kz.frozen i)
                    have sz := HS5.out _ pc
                    go_wp2_with fail
                    refine hKQ.out _ _ ?s_5a (fun hHeld5 => ?_)
                    case s_5a => exact sz
                    clear hKQ KQ
                    try simp only [Act.put, List.setIfInBounds_toArray, List.set_cons_zero, List.set_cons_succ]
                    refine tk 6 { dst := some 102, op := .move (.tmp 108), type := 36, pos := "more.go:53", after := #[{ on := 5, ground := .data }], guard := none } _ ?_
                    try simp only [Act.put, List.setIfInBounds_toArray, List.set_cons_zero, List.set_cons_succ]
                    refine tk 7 { dst := some 109, op := .extract (.tmp 102) 0, type := 27, pos := "more.go:53", after := #[{ on := 6, ground := .data }], guard := none } _ ?_
                    try simp only [Act.put, List.setIfInBounds_toArray, List.set_cons_zero, List.set_cons_succ]
                    refine tk 8 { dst := some 110, op := .extract (.tmp 102) 1, type := 35, pos := "more.go:53", after := #[{ on := 6, ground := .data }, { on := 10, ground := .gcOnly Go.Departure.lateStores }], guard := none } _ ?_
                    try simp only [Act.put, List.setIfInBounds_toArray, List.set_cons_zero, List.set_cons_succ]
                    refine wpAnyH_ready (rs := [9]) (by kernel_rfl) (by simp) ?_
                    refine AllReadyH.cons (o := { dst := some 14, op := .alloc 27, type := 0, pos := "more.go:53", after := #[], guard := none }) rfl (fun KQ hKQ => ?_) AllReadyH.nil
                    go_simp
                    first | (have kz : Blk 27 (z1.alloc (.cells #[.int .u16 0, .int .u16 0, .int .u16 0, .int .i64 0, .int .i64 0, .int .u16 0, .int .u16 0, .int .u16 0, .int .i64 0, .int .i64 0, .bool false] 27)) z1.heap.size [.int .u16 0, .int .u16 0, .int .u16 0, .int .i64 0, .int .i64 0, .int .u16 0, .int .u16 0, .int .u16 0, .int .i64 0, .int .i64 0, .bool false] := heap_alloc_new z1 _; have hgz := pc.size; have pn := pc.alloc hgz (.cells #[.int .u16 0, .int .u16 0, .int .u16 0, .int .i64 0, .int .i64 0, .int .u16 0, .int .u16 0, .int .u16 0, .int .i64 0, .int .i64 0, .bool false] 27); generalize z1.heap.size = gz at *; generalize z1.alloc (.cells #[.int .u16 0, .int .u16 0, .int .u16 0, .int .i64 0, .int .i64 0, .int .u16 0, .int .u16 0, .int .u16 0, .int .i64 0, .int .i64 0, .bool false] 27) = za at *) | (have kz : Blk 27 ((w5.alloc (.cells #[.int .u16 0, .int .u16 0, .int .u16 0, .int .i64 0, .int .i64 0, .int .u16 0, .int .u16 0, .int .u16 0, .int .i64 0, .int .i64 0, .bool false] 27)).drew) w5.heap.size [.int .u16 0, .int .u16 0, .int .u16 0, .int .i64 0, .int .i64 0, .int .u16 0, .int .u16 0, .int .u16 0, .int .i64 0, .int .i64 0, .bool false] := Blk.drew (show Blk 27 (w5.alloc (.cells #[.int .u16 0, .int .u16 0, .int .u16 0, .int .i64 0, .int .i64 0, .int .u16 0, .int .u16 0, .int .u16 0, .int .i64 0, .int .i64 0, .bool false] 27)) w5.heap.size [.int .u16 0, .int .u16 0, .int .u16 0, .int .i64 0, .int .i64 0, .int .u16 0, .int .u16 0, .int .u16 0, .int .i64 0, .int .i64 0, .bool false] from heap_alloc_new w5 _); have hgz : w5.heap.size ≤ w5.heap.size := Nat.le_refl _; have pn := ((Below.refl w5.heap.size w5).alloc (Nat.le_refl _) (.cells #[.int .u16 0, .int .u16 0, .int .u16 0, .int .i64 0, .int .i64 0, .int .u16 0, .int .u16 0, .int .u16 0, .int .i64 0, .int .i64 0, .bool false] 27)).drew; generalize hge : w5.heap.size = gz at *; generalize (w5.alloc (.cells #[.int .u16 0, .int .u16 0, .int .u16 0, .int .i64 0, .int .i64 0, .int .u16 0, .int .u16 0, .int .u16 0, .int .i64 0, .int .i64 0, .bool false] 27)).drew = za at *)
                    clear pc
                    have pc := pn
                    clear pn
                    have cz := blk11 kz
                    have dfz := fun i => kz.frozen i
                    have sa := HS5.out _ pc
                    refine hKQ.out _ _ ?s_9a (fun hHeld9 => ?_)
                    case s_9a => exact sa
                    clear hKQ KQ
                    try simp only [Act.put, List.setIfInBounds_toArray, List.set_cons_zero, List.set_cons_succ]
                    refine wpAnyH_ready (rs := [10]) (by kernel_rfl) (by simp) ?_
                    refine AllReadyH.cons (o := { dst := none, op := .store 27 (.tmp 14) (.tmp 109), type := 0, pos := "more.go:53", after := #[{ on := 9, ground := .data }, { on := 7, ground := .data }, { on := 5, ground := .chain }, { on := 0, ground := .phase }, { on := 1, ground := .phase }, { on := 2, ground := .phase }, { on := 3, ground := .phase }, { on := 4, ground := .phase }, { on := 5, ground := .phase }, { on := 6, ground := .phase }, { on := 7, ground := .phase }, { on := 8, ground := .textOnly Go.Departure.lateStores }, { on := 9, ground := .phase }], guard := none }) rfl (fun KQ hKQ => ?_) AllReadyH.nil
                    go_simp
                    have sF := put11 (.int .u16 0) (.int .u16 0) (.int .u16 0) (.int .i64 0) (.int .i64 0) (.int .u16 0) (.int .u16 0) (.int .u16 0) (.int .i64 0) (.int .i64 0) (.bool false) kz
                    have bF := below11 (g := gz) (.int .u16 0) (.int .u16 0) (.int .u16 0) (.int .i64 0) (.int .i64 0) (.int .u16 0) (.int .u16 0) (.int .u16 0) (.int .i64 0) (.int .i64 0) (.bool false) pc hgz
                    first | (have kk : Blk 27 za gz [.int .u16 0, .int .u16 0, .int .u16 0, .int .i64 0, .int .i64 0, .int .u16 0, .int .u16 0, .int .u16 0, .int .i64 0, .int .i64 0, .bool false] := kz; generalize (((((((((((za.setCell ⟨gz, 0, none⟩ (.int .u16 0)).setCell ⟨gz, 1, none⟩ (.int .u16 0)).setCell ⟨gz, 2, none⟩ (.int .u16 0)).setCell ⟨gz, 3, none⟩ (.int .i64 0)).setCell ⟨gz, 4, none⟩ (.int .i64 0)).setCell ⟨gz, 5, none⟩ (.int .u16 0)).setCell ⟨gz, 6, none⟩ (.int .u16 0)).setCell ⟨gz, 7, none⟩ (.int .u16 0)).setCell ⟨gz, 8, none⟩ (.int .i64 0)).setCell ⟨gz, 9, none⟩ (.int .i64 0)).setCell ⟨gz, 10, none⟩ (.bool false)) = wf at *) | (generalize (((((((((((z1.setCell ⟨gz, 0, none⟩ (.int .u16 0)).setCell ⟨gz, 1, none⟩ (.int .u16 0)).setCell ⟨gz, 2, none⟩ (.int .u16 0)).setCell ⟨gz, 3, none⟩ (.int .i64 0)).setCell ⟨gz, 4, none⟩ (.int .i64 0)).setCell ⟨gz, 5, none⟩ (.int .u16 0)).setCell ⟨gz, 6, none⟩ (.int .u16 0)).setCell ⟨gz, 7, none⟩ (.int .u16 0)).setCell ⟨gz, 8, none⟩ (.int .i64 0)).setCell ⟨gz, 9, none⟩ (.int .i64 0)).setCell ⟨gz, 10, none⟩ (.bool false)) = wf at *)
                    have sS := HS5.out _ bF
                    refine hKQ.out _ _ ?s_10a (fun hHeld10 => ?_)
                    case s_10a => exact sS
                    clear hKQ KQ
                    try simp only [Act.put]
                    refine tk 11 { dst := some 15, op := .assign (.tmp 110), type := 35, pos := "more.go:53", after := #[{ on := 8, ground := .data }, { on := 10, ground := .chain }, { on := 0, ground := .phase }, { on := 1, ground := .phase }, { on := 2, ground := .phase }, { on := 3, ground := .phase }, { on := 4, ground := .phase }, { on := 5, ground := .phase }, { on := 6, ground := .phase }, { on := 7, ground := .phase }, { on := 8, ground := .phase }, { on := 9, ground := .phase }, { on := 10, ground := .phase }], guard := none } _ ?_
                    try simp only [Act.put, List.setIfInBounds_toArray, List.set_cons_zero, List.set_cons_succ]
                    refine wpAnyH_done (by kernel_rfl) ?_ _
                    go_wp2_with fail
                    go_meet
                    case rel => exact ⟨gz, rfl, rfl, hgz, sF, Lib.hid bF⟩
                  · go_simp
                    first | (have kz : Blk 27 (z1.alloc (.cells #[.int .u16 0, .int .u16 0, .int .u16 0, .int .i64 0, .int .i64 0, .int .u16 0, .int .u16 0, .int .u16 0, .int .i64 0, .int .i64 0, .bool false] 27)) z1.heap.size [.int .u16 0, .int .u16 0, .int .u16 0, .int .i64 0, .int .i64 0, .int .u16 0, .int .u16 0, .int .u16 0, .int .i64 0, .int .i64 0, .bool false] := heap_alloc_new z1 _; have hgz := pc.size; have pn := pc.alloc hgz (.cells #[.int .u16 0, .int .u16 0, .int .u16 0, .int .i64 0, .int .i64 0, .int .u16 0, .int .u16 0, .int .u16 0, .int .i64 0, .int .i64 0, .bool false] 27); generalize z1.heap.size = gz at *; generalize z1.alloc (.cells #[.int .u16 0, .int .u16 0, .int .u16 0, .int .i64 0, .int .i64 0, .int .u16 0, .int .u16 0, .int .u16 0, .int .i64 0, .int .i64 0, .bool false] 27) = za at *) | (have kz : Blk 27 ((w5.alloc (.cells #[.int .u16 0, .int .u16 0, .int .u16 0, .int .i64 0, .int .i64 0, .int .u16 0, .int .u16 0, .int .u16 0, .int .i64 0, .int .i64 0, .bool false] 27)).drew) w5.heap.size [.int .u16 0, .int .u16 0, .int .u16 0, .int .i64 0, .int .i64 0, .int .u16 0, .int .u16 0, .int .u16 0, .int .i64 0, .int .i64 0, .bool false] := Blk.drew (show Blk 27 (w5.alloc (.cells #[.int .u16 0, .int .u16 0, .int .u16 0, .int .i64 0, .int .i64 0, .int .u16 0, .int .u16 0, .int .u16 0, .int .i64 0, .int .i64 0, .bool false] 27)) w5.heap.size [.int .u16 0, .int .u16 0, .int .u16 0, .int .i64 0, .int .i64 0, .int .u16 0, .int .u16 0, .int .u16 0, .int .i64 0, .int .i64 0, .bool false] from heap_alloc_new w5 _); have hgz : w5.heap.size ≤ w5.heap.size := Nat.le_refl _; have pn := ((Below.refl w5.heap.size w5).alloc (Nat.le_refl _) (.cells #[.int .u16 0, .int .u16 0, .int .u16 0, .int .i64 0, .int .i64 0, .int .u16 0, .int .u16 0, .int .u16 0, .int .i64 0, .int .i64 0, .bool false] 27)).drew; generalize hge : w5.heap.size = gz at *; generalize (w5.alloc (.cells #[.int .u16 0, .int .u16 0, .int .u16 0, .int .i64 0, .int .i64 0, .int .u16 0, .int .u16 0, .int .u16 0, .int .i64 0, .int .i64 0, .bool false] 27)).drew = za at *)
                    clear pc
                    have pc := pn
                    clear pn
                    have cz := blk11 kz
                    have dfz := fun i => kz.frozen i
                    have sa := HS5.out _ pc
                    refine hKQ.out _ _ ?s_9b (fun hHeld9 => ?_)
                    case s_9b => exact sa
                    clear hKQ KQ
                    try simp only [Act.put, List.setIfInBounds_toArray, List.set_cons_zero, List.set_cons_succ]
                    refine wpAnyH_ready (rs := [5]) (by kernel_rfl) (by simp) ?_
                    refine AllReadyH.cons (o := { dst := some 108, op := .call { callee := .value (.func 27), args := #[.tmp 103, .tmp 107], argTypes := #[27, 25] }, type := 36, pos := "more.go:53", after := #[{ on := 0, ground := .data }, { on := 4, ground := .data }], guard := none }) rfl (fun KQ hKQ => ?_) AllReadyH.nil
                    go_simp
                    refine (CA.out _).mono ?_
                    rintro e z1 ⟨rfl, hZ1⟩
                    have pn := pc.trans (hZ1.mono (by have h9 := pc.size; omega))
                    clear pc
                    have pc := pn
                    clear pn
                    (try have kz := kz.below hZ1 kz.lt)
                    (try have cz := blk11 kz)
                    (try have dfz := fun i => kz.frozen i)
                    have sz := HS5.out _ pc
                    go_wp2_with fail
                    refine hKQ.out _ _ ?s_5b (fun hHeld5 => ?_)
                    case s_5b => exact sz
                    clear hKQ KQ
                    try simp only [Act.put, List.setIfInBounds_toArray, List.set_cons_zero, List.set_cons_succ]
                    refine tk 6 { dst := some 102, op := .move (.tmp 108), type := 36, pos := "more.go:53", after := #[{ on := 5, ground := .data }], guard := none } _ ?_
                    try simp only [Act.put, List.setIfInBounds_toArray, List.set_cons_zero, List.set_cons_succ]
                    refine tk 7 { dst := some 109, op := .extract (.tmp 102) 0, type := 27, pos := "more.go:53", after := #[{ on := 6, ground := .data }], guard := none } _ ?_
                    try simp only [Act.put, List.setIfInBounds_toArray, List.set_cons_zero, List.set_cons_succ]
                    refine tk 8 { dst := some 110, op := .extract (.tmp 102) 1, type := 35, pos := "more.go:53", after := #[{ on := 6, ground := .data }, { on := 10, ground := .gcOnly Go.Departure.lateStores }], guard := none } _ ?_
                    try simp only [Act.put, List.setIfInBounds_toArray, List.set_cons_zero, List.set_cons_succ]
                    refine wpAnyH_ready (rs := [10]) (by kernel_rfl) (by simp) ?_
                    refine AllReadyH.cons (o := { dst := none, op := .store 27 (.tmp 14) (.tmp 109), type := 0, pos := "more.go:53", after := #[{ on := 9, ground := .data }, { on := 7, ground := .data }, { on := 5, ground := .chain }, { on := 0, ground := .phase }, { on := 1, ground := .phase }, { on := 2, ground := .phase }, { on := 3, ground := .phase }, { on := 4, ground := .phase }, { on := 5, ground := .phase }, { on := 6, ground := .phase }, { on := 7, ground := .phase }, { on := 8, ground := .textOnly Go.Departure.lateStores }, { on := 9, ground := .phase }], guard := none }) rfl (fun KQ hKQ => ?_) AllReadyH.nil
                    go_simp
                    have sF := put11 (.int .u16 0) (.int .u16 0) (.int .u16 0) (.int .i64 0) (.int .i64 0) (.int .u16 0) (.int .u16 0) (.int .u16 0) (.int .i64 0) (.int .i64 0) (.bool false) kz
                    have bF := below11 (g := gz) (.int .u16 0) (.int .u16 0) (.int .u16 0) (.int .i64 0) (.int .i64 0) (.int .u16 0) (.int .u16 0) (.int .u16 0) (.int .i64 0) (.int .i64 0) (.bool false) pc hgz
                    first | (have kk : Blk 27 za gz [.int .u16 0, .int .u16 0, .int .u16 0, .int .i64 0, .int .i64 0, .int .u16 0, .int .u16 0, .int .u16 0, .int .i64 0, .int .i64 0, .bool false] := kz; generalize (((((((((((za.setCell ⟨gz, 0, none⟩ (.int .u16 0)).setCell ⟨gz, 1, none⟩ (.int .u16 0)).setCell ⟨gz, 2, none⟩ (.int .u16 0)).setCell ⟨gz, 3, none⟩ (.int .i64 0)).setCell ⟨gz, 4, none⟩ (.int .i64 0)).setCell ⟨gz, 5, none⟩ (.int .u16 0)).setCell ⟨gz, 6, none⟩ (.int .u16 0)).setCell ⟨gz, 7, none⟩ (.int .u16 0)).setCell ⟨gz, 8, none⟩ (.int .i64 0)).setCell ⟨gz, 9, none⟩ (.int .i64 0)).setCell ⟨gz, 10, none⟩ (.bool false)) = wf at *) | (generalize (((((((((((z1.setCell ⟨gz, 0, none⟩ (.int .u16 0)).setCell ⟨gz, 1, none⟩ (.int .u16 0)).setCell ⟨gz, 2, none⟩ (.int .u16 0)).setCell ⟨gz, 3, none⟩ (.int .i64 0)).setCell ⟨gz, 4, none⟩ (.int .i64 0)).setCell ⟨gz, 5, none⟩ (.int .u16 0)).setCell ⟨gz, 6, none⟩ (.int .u16 0)).setCell ⟨gz, 7, none⟩ (.int .u16 0)).setCell ⟨gz, 8, none⟩ (.int .i64 0)).setCell ⟨gz, 9, none⟩ (.int .i64 0)).setCell ⟨gz, 10, none⟩ (.bool false)) = wf at *)
                    have sS := HS5.out _ bF
                    refine hKQ.out _ _ ?s_10b (fun hHeld10 => ?_)
                    case s_10b => exact sS
                    clear hKQ KQ
                    try simp only [Act.put]
                    refine tk 11 { dst := some 15, op := .assign (.tmp 110), type := 35, pos := "more.go:53", after := #[{ on := 8, ground := .data }, { on := 10, ground := .chain }, { on := 0, ground := .phase }, { on := 1, ground := .phase }, { on := 2, ground := .phase }, { on := 3, ground := .phase }, { on := 4, ground := .phase }, { on := 5, ground := .phase }, { on := 6, ground := .phase }, { on := 7, ground := .phase }, { on := 8, ground := .phase }, { on := 9, ground := .phase }, { on := 10, ground := .phase }], guard := none } _ ?_
                    try simp only [Act.put, List.setIfInBounds_toArray, List.set_cons_zero, List.set_cons_succ]
                    refine wpAnyH_done (by kernel_rfl) ?_ _
                    go_wp2_with fail
                    go_meet
                    case rel => exact ⟨gz, rfl, rfl, hgz, sF, Lib.hid bF⟩
                case rest =>
                  obtain ⟨g3, rfl, rfl, hg_g3, kN, hBc⟩ := hcut
                  have K6 := K5.out.below hBc.out hs95
                  have B6 := Lib.hid (B5.out.trans (hBc.out.mono B5.out.size))
                  have r6 := HS5.out _ hBc.out
                  have d6 := fun i => K6.frozen i
                  generalize wc = w6 at *
                  have HK6 := Lib.hid K6
                  clear K6 kN hBc HS5 K5 B5 CA
                  go_wp2_with fail
                  have sF := put11 (.int .u16 (xv : Int)) (.int .u16 (xw : Int)) (.int .u16 (xl : Int)) (.int .i64 xe) (.int .i64 xk) (.int .u16 0) (.int .u16 0) (.int .u16 0) (.int .i64 0) (.int .i64 0) (.bool false) HK6.out
                  have bF := below11 (g := p9) (.int .u16 (xv : Int)) (.int .u16 (xw : Int)) (.int .u16 (xl : Int)) (.int .i64 xe) (.int .i64 xk) (.int .u16 0) (.int .u16 0) (.int .u16 0) (.int .i64 0) (.int .i64 0) (.bool false) B6.out hp9
                  go_round
                  case rel => exact ⟨i + 1, ⟨xv, xw, xl, xe, xk⟩, by omega, by go_num, Lib.hid ⟨HU2.out.1, HU2.out.2.1, rfl⟩, sF, bF⟩
                  case measure => simp [intOf]; omega
          · have g0 : ((E : Int) != 0) = true := by rw [bne_iff_ne]; exact he
            clear HE0 E1 C1 C2 MN MF FN CA HMN HME CX hmc2 HCK CM CB HT
            go_upto_region 9 with (fail)
            go_cut [11, 12] from 200 (fun sa sb wx => ∃ g, sa = .pointer (some ⟨g, 0, none⟩) ∧ sb = .int .i64 E ∧ wr.heap.size ≤ g ∧ Blk 27 wx g [.int .u16 (rv : Int), .int .u16 (rw_ : Int), .int .u16 (rl : Int), .int .i64 re, .int .i64 rk, .int .u16 (sv : Int), .int .u16 (sw : Int), .int .u16 (sl : Int), .int .i64 se, .int .i64 sk, .bool rt] ∧ Hid (Below wr.heap.size wr wx))
            case first =>
              have p0 : Below wr.heap.size wr wr.drew := (Below.refl _ _).drew
              refine wp_region_held_drew (S := fun wq => (wq.cell? ⟨p9, 0, none⟩ = some (.int .u16 (uv : Int)) ∧ wq.cell? ⟨p9, 1, none⟩ = some (.int .u16 (uw : Int)) ∧ wq.cell? ⟨p9, 2, none⟩ = some (.int .u16 (ul : Int)) ∧ wq.cell? ⟨p9, 3, none⟩ = some (.int .i64 ue) ∧ wq.cell? ⟨p9, 4, none⟩ = some (.int .i64 uk) ∧ wq.cell? ⟨p9, 5, none⟩ = some (.int .u16 0) ∧ wq.cell? ⟨p9, 6, none⟩ = some (.int .u16 0) ∧ wq.cell? ⟨p9, 7, none⟩ = some (.int .u16 0) ∧ wq.cell? ⟨p9, 8, none⟩ = some (.int .i64 0) ∧ wq.cell? ⟨p9, 9, none⟩ = some (.int .i64 0) ∧ wq.cell? ⟨p9, 10, none⟩ = some (.bool false)) ∧ (wq.cell? ⟨tb, f + i * 5, none⟩ = some (.int .u16 (xv : Int)) ∧ wq.cell? ⟨tb, f + i * 5 + 1, none⟩ = some (.int .u16 (xw : Int)) ∧ wq.cell? ⟨tb, f + i * 5 + 2, none⟩ = some (.int .u16 (xl : Int)) ∧ wq.cell? ⟨tb, f + i * 5 + 3, none⟩ = some (.int .i64 xe) ∧ wq.cell? ⟨tb, f + i * 5 + 4, none⟩ = some (.int .i64 xk)) ∧ (wq.cell? ⟨w.heap.size, 0, none⟩ = some (.int .u16 (cv : Int)) ∧ wq.cell? ⟨w.heap.size, 1, none⟩ = some (.int .u16 (cw : Int)) ∧ wq.cell? ⟨w.heap.size, 2, none⟩ = some (.int .u16 (cl : Int)) ∧ wq.cell? ⟨w.heap.size, 3, none⟩ = some (.int .i64 ce) ∧ wq.cell? ⟨w.heap.size, 4, none⟩ = some (.int .i64 ck))) (by kernel_rfl) ?s_chn9b (fun hHeld => ?_)
              case s_chn9b => exact HS2.out _ p0
              have pc := p0
              clear p0
              refine tk 0 { dst := some 35, op := .load 27 (.tmp 9), type := 27, pos := "more.go:42", after := #[], guard := none } _ ?_
              try simp only [Act.put, List.setIfInBounds_toArray, List.set_cons_zero, List.set_cons_succ]
              refine tk 1 { dst := some 36, op := .move (.tmp 1), type := 46, pos := "more.go:42", after := #[], guard := none } _ ?_
              try simp only [Act.put, List.setIfInBounds_toArray, List.set_cons_zero, List.set_cons_succ]
              refine tk 2 { dst := some 37, op := .move (.tmp 10), type := 3, pos := "more.go:42", after := #[], guard := none } _ ?_
              try simp only [Act.put, List.setIfInBounds_toArray, List.set_cons_zero, List.set_cons_succ]
              refine tk 3 { dst := some 38, op := .indexAddr 46 (.tmp 36) (.tmp 37), type := 0, pos := "more.go:42", after := #[{ on := 1, ground := .data }, { on := 2, ground := .data }], guard := none } _ ?_
              try simp only [Act.put, List.setIfInBounds_toArray, List.set_cons_zero, List.set_cons_succ]
              refine tk 4 { dst := some 39, op := .load 25 (.tmp 38), type := 25, pos := "more.go:42", after := #[{ on := 3, ground := .data }], guard := none } _ ?_
              try simp only [Act.put, List.setIfInBounds_toArray, List.set_cons_zero, List.set_cons_succ]
              refine wpAnyH_ready (rs := [5, 9]) (by kernel_rfl) (by simp) ?_
              refine AllReadyH.cons (o := { dst := some 40, op := .call { callee := .value (.func 27), args := #[.tmp 35, .tmp 39], argTypes := #[27, 25] }, type := 36, pos := "more.go:42", after := #[{ on := 0, ground := .data }, { on := 4, ground := .data }], guard := none }) rfl (fun KQ hKQ => ?_) (AllReadyH.cons (o := { dst := some 11, op := .alloc 27, type := 0, pos := "more.go:42", after := #[], guard := none }) rfl (fun KQ hKQ => ?_) AllReadyH.nil)
              · go_simp
                refine (CH.out _).mono ?_
                rintro e z1 ⟨rfl, hZ1⟩
                have pn := pc.trans (hZ1.mono (by have h9 := pc.size; omega))
                clear pc
                have pc := pn
                clear pn
                (try have kz := kz.below hZ1 kz.lt)
                (try have cz := blk11 kz)
                (try have dfz := fun i => kz.frozen i)
                have sz := HS2.out _ pc
                go_wp2_with fail
                refine hKQ.out _ _ ?s_5a (fun hHeld5 => ?_)
                case s_5a => exact sz
                clear hKQ KQ
                try simp only [Act.put, List.setIfInBounds_toArray, List.set_cons_zero, List.set_cons_succ]
                refine tk 6 { dst := some 34, op := .move (.tmp 40), type := 36, pos := "more.go:42", after := #[{ on := 5, ground := .data }], guard := none } _ ?_
                try simp only [Act.put, List.setIfInBounds_toArray, List.set_cons_zero, List.set_cons_succ]
                refine tk 7 { dst := some 41, op := .extract (.tmp 34) 0, type := 27, pos := "more.go:42", after := #[{ on := 6, ground := .data }], guard := none } _ ?_
                try simp only [Act.put, List.setIfInBounds_toArray, List.set_cons_zero, List.set_cons_succ]
                refine tk 8 { dst := some 42, op := .extract (.tmp 34) 1, type := 35, pos := "more.go:42", after := #[{ on := 6, ground := .data }, { on := 10, ground := .gcOnly Go.Departure.lateStores }], guard := none } _ ?_
                try simp only [Act.put, List.setIfInBounds_toArray, List.set_cons_zero, List.set_cons_succ]
                refine wpAnyH_ready (rs := [9]) (by kernel_rfl) (by simp) ?_
                refine AllReadyH.cons (o := { dst := some 11, op := .alloc 27, type := 0, pos := "more.go:42", after := #[], guard := none }) rfl (fun KQ hKQ => ?_) AllReadyH.nil
                go_simp
                first | (have kz : Blk 27 (z1.alloc (.cells #[.int .u16 0, .int .u16 0, .int .u16 0, .int .i64 0, .int .i64 0, .int .u16 0, .int .u16 0, .int .u16 0, .int .i64 0, .int .i64 0, .bool false] 27)) z1.heap.size [.int .u16 0, .int .u16 0, .int .u16 0, .int .i64 0, .int .i64 0, .int .u16 0, .int .u16 0, .int .u16 0, .int .i64 0, .int .i64 0, .bool false] := heap_alloc_new z1 _; have hgz := pc.size; have pn := pc.alloc hgz (.cells #[.int .u16 0, .int .u16 0, .int .u16 0, .int .i64 0, .int .i64 0, .int .u16 0, .int .u16 0, .int .u16 0, .int .i64 0, .int .i64 0, .bool false] 27); generalize z1.heap.size = gz at *; generalize z1.alloc (.cells #[.int .u16 0, .int .u16 0, .int .u16 0, .int .i64 0, .int .i64 0, .int .u16 0, .int .u16 0, .int .u16 0, .int .i64 0, .int .i64 0, .bool false] 27) = za at *) | (have kz : Blk 27 ((wr.alloc (.cells #[.int .u16 0, .int .u16 0, .int .u16 0, .int .i64 0, .int .i64 0, .int .u16 0, .int .u16 0, .int .u16 0, .int .i64 0, .int .i64 0, .bool false] 27)).drew) wr.heap.size [.int .u16 0, .int .u16 0, .int .u16 0, .int .i64 0, .int .i64 0, .int .u16 0, .int .u16 0, .int .u16 0, .int .i64 0, .int .i64 0, .bool false] := Blk.drew (show Blk 27 (wr.alloc (.cells #[.int .u16 0, .int .u16 0, .int .u16 0, .int .i64 0, .int .i64 0, .int .u16 0, .int .u16 0, .int .u16 0, .int .i64 0, .int .i64 0, .bool false] 27)) wr.heap.size [.int .u16 0, .int .u16 0, .int .u16 0, .int .i64 0, .int .i64 0, .int .u16 0, .int .u16 0, .int .u16 0, .int .i64 0, .int .i64 0, .bool false] from heap_alloc_new wr _); have hgz : wr.heap.size ≤ wr.heap.size := Nat.le_refl _; have pn := ((Below.refl wr.heap.size wr).alloc (Nat.le_refl _) (.cells #[.int .u16 0, .int .u16 0, .int .u16 0, .int .i64 0, .int .i64 0, .int .u16 0, .int .u16 0, .int .u16 0, .int .i64 0, .int .i64 0, .bool false] 27)).drew; generalize hge : wr.heap.size = gz at *; generalize (wr.alloc (.cells #[.int .u16 0, .int .u16 0, .int .u16 0, .int .i64 0, .int .i64 0, .int .u16 0, .int .u16 0, .int .u16 0, .int .i64 0, .int .i64 0, .bool false] 27)).drew = za at *)
                clear pc
                have pc := pn
                clear pn
                have cz := blk11 kz
                have dfz := fun i => kz.frozen i
                have sa := HS2.out _ pc
                refine hKQ.out _ _ ?s_9a (fun hHeld9 => ?_)
                case s_9a => exact sa
                clear hKQ KQ
                try simp only [Act.put, List.setIfInBounds_toArray, List.set_cons_zero, List.set_cons_succ]
                refine wpAnyH_ready (rs := [10]) (by kernel_rfl) (by simp) ?_
                refine AllReadyH.cons (o := { dst := none, op := .store 27 (.tmp 11) (.tmp 41), type := 0, pos := "more.go:42", after := #[{ on := 9, ground := .data }, { on := 7, ground := .data }, { on := 5, ground := .chain }, { on := 0, ground := .phase }, { on := 1, ground := .phase }, { on := 2, ground := .phase }, { on := 3, ground := .phase }, { on := 4, ground := .phase }, { on := 5, ground := .phase }, { on := 6, ground := .phase }, { on := 7, ground := .phase }, { on := 8, ground := .textOnly Go.Departure.lateStores }, { on := 9, ground := .phase }], guard := none }) rfl (fun KQ hKQ => ?_) AllReadyH.nil
                go_simp
                have sF := put11 (.int .u16 (rv : Int)) (.int .u16 (rw_ : Int)) (.int .u16 (rl : Int)) (.int .i64 re) (.int .i64 rk) (.int .u16 (sv : Int)) (.int .u16 (sw : Int)) (.int .u16 (sl : Int)) (.int .i64 se) (.int .i64 sk) (.bool rt) kz
                have bF := below11 (g := gz) (.int .u16 (rv : Int)) (.int .u16 (rw_ : Int)) (.int .u16 (rl : Int)) (.int .i64 re) (.int .i64 rk) (.int .u16 (sv : Int)) (.int .u16 (sw : Int)) (.int .u16 (sl : Int)) (.int .i64 se) (.int .i64 sk) (.bool rt) pc hgz
                first | (have kk : Blk 27 za gz [.int .u16 0, .int .u16 0, .int .u16 0, .int .i64 0, .int .i64 0, .int .u16 0, .int .u16 0, .int .u16 0, .int .i64 0, .int .i64 0, .bool false] := kz; generalize (((((((((((za.setCell ⟨gz, 0, none⟩ (.int .u16 (rv : Int))).setCell ⟨gz, 1, none⟩ (.int .u16 (rw_ : Int))).setCell ⟨gz, 2, none⟩ (.int .u16 (rl : Int))).setCell ⟨gz, 3, none⟩ (.int .i64 re)).setCell ⟨gz, 4, none⟩ (.int .i64 rk)).setCell ⟨gz, 5, none⟩ (.int .u16 (sv : Int))).setCell ⟨gz, 6, none⟩ (.int .u16 (sw : Int))).setCell ⟨gz, 7, none⟩ (.int .u16 (sl : Int))).setCell ⟨gz, 8, none⟩ (.int .i64 se)).setCell ⟨gz, 9, none⟩ (.int .i64 sk)).setCell ⟨gz, 10, none⟩ (.bool rt)) = wf at *) | (generalize (((((((((((z1.setCell ⟨gz, 0, none⟩ (.int .u16 (rv : Int))).setCell ⟨gz, 1, none⟩ (.int .u16 (rw_ : Int))).setCell ⟨gz, 2, none⟩ (.int .u16 (rl : Int))).setCell ⟨gz, 3, none⟩ (.int .i64 re)).setCell ⟨gz, 4, none⟩ (.int .i64 rk)).setCell ⟨gz, 5, none⟩ (.int .u16 (sv : Int))).setCell ⟨gz, 6, none⟩ (.int .u16 (sw : Int))).setCell ⟨gz, 7, none⟩ (.int .u16 (sl : Int))).setCell ⟨gz, 8, none⟩ (.int .i64 se)).setCell ⟨gz, 9, none⟩ (.int .i64 sk)).setCell ⟨gz, 10, none⟩ (.bool rt)) = wf at *)
                have sS := HS2.out _ bF
                refine hKQ.out _ _ ?s_10a (fun hHeld10 => ?_)
                case s_10a => exact sS
                clear hKQ KQ
                try simp only [Act.put]
                refine tk 11 { dst := some 12, op := .assign (.tmp 42), type := 35, pos := "more.go:42", after := #[{ on := 8, ground := .data }, { on := 10, ground := .chain }, { on := 0, ground := .phase }, { on := 1, ground := .phase }, { on := 2, ground := .phase }, { on := 3, ground := .phase }, { on := 4, ground := .phase }, { on := 5, ground := .phase }, { on := 6, ground := .phase }, { on := 7, ground := .phase }, { on := 8, ground := .phase }, { on := 9, ground := .phase }, { on := 10, ground := .phase }], guard := none } _ ?_
                try simp only [Act.put, List.setIfInBounds_toArray, List.set_cons_zero, List.set_cons_succ]
                refine wpAnyH_done (by kernel_rfl) ?_ _
                go_wp2_with fail
                go_meet
                case rel => exact ⟨gz, rfl, rfl, hgz, sF, Lib.hid bF⟩
              · go_simp
                first | (have kz : Blk 27 (z1.alloc (.cells #[.int .u16 0, .int .u16 0, .int .u16 0, .int .i64 0, .int .i64 0, .int .u16 0, .int .u16 0, .int .u16 0, .int .i64 0, .int .i64 0, .bool false] 27)) z1.heap.size [.int .u16 0, .int .u16 0, .int .u16 0, .int .i64 0, .int .i64 0, .int .u16 0, .int .u16 0, .int .u16 0, .int .i64 0, .int .i64 0, .bool false] := heap_alloc_new z1 _; have hgz := pc.size; have pn := pc.alloc hgz (.cells #[.int .u16 0, .int .u16 0, .int .u16 0, .int .i64 0, .int .i64 0, .int .u16 0, .int .u16 0, .int .u16 0, .int .i64 0, .int .i64 0, .bool false] 27); generalize z1.heap.size = gz at *; generalize z1.alloc (.cells #[.int .u16 0, .int .u16 0, .int .u16 0, .int .i64 0, .int .i64 0, .int .u16 0, .int .u16 0, .int .u16 0, .int .i64 0, .int .i64 0, .bool false] 27) = za at *) | (have kz : Blk 27 ((wr.alloc (.cells #[.int .u16 0, .int .u16 0, .int .u16 0, .int .i64 0, .int .i64 0, .int .u16 0, .int .u16 0, .int .u16 0, .int .i64 0, .int .i64 0, .bool false] 27)).drew) wr.heap.size [.int .u16 0, .int .u16 0, .int .u16 0, .int .i64 0, .int .i64 0, .int .u16 0, .int .u16 0, .int .u16 0, .int .i64 0, .int .i64 0, .bool false] := Blk.drew (show Blk 27 (wr.alloc (.cells #[.int .u16 0, .int .u16 0, .int .u16 0, .int .i64 0, .int .i64 0, .int .u16 0, .int .u16 0, .int .u16 0, .int .i64 0, .int .i64 0, .bool false] 27)) wr.heap.size [.int .u16 0, .int .u16 0, .int .u16 0, .int .i64 0, .int .i64 0, .int .u16 0, .int .u16 0, .int .u16 0, .int .i64 0, .int .i64 0, .bool false] from heap_alloc_new wr _); have hgz : wr.heap.size ≤ wr.heap.size := Nat.le_refl _; have pn := ((Below.refl wr.heap.size wr).alloc (Nat.le_refl _) (.cells #[.int .u16 0, .int .u16 0, .int .u16 0, .int .i64 0, .int .i64 0, .int .u16 0, .int .u16 0, .int .u16 0, .int .i64 0, .int .i64 0, .bool false] 27)).drew; generalize hge : wr.heap.size = gz at *; generalize (wr.alloc (.cells #[.int .u16 0, .int .u16 0, .int .u16 0, .int .i64 0, .int .i64 0, .int .u16 0, .int .u16 0, .int .u16 0, .int .i64 0, .int .i64 0, .bool false] 27)).drew = za at *)
                clear pc
                have pc := pn
                clear pn
                have cz := blk11 kz
                have dfz := fun i => kz.frozen i
                have sa := HS2.out _ pc
                refine hKQ.out _ _ ?s_9b (fun hHeld9 => ?_)
                case s_9b => exact sa
                clear hKQ KQ
                try simp only [Act.put, List.setIfInBounds_toArray, List.set_cons_zero, List.set_cons_succ]
                refine wpAnyH_ready (rs := [5]) (by kernel_rfl) (by simp) ?_
                refine AllReadyH.cons (o := { dst := some 40, op := .call { callee := .value (.func 27), args := #[.tmp 35, .tmp 39], argTypes := #[27, 25] }, type := 36, pos := "more.go:42", after := #[{ on := 0, ground := .data }, { on := 4, ground := .data }], guard := none }) rfl (fun KQ hKQ => ?_) AllReadyH.nil
                go_simp
                refine (CH.out _).mono ?_
                rintro e z1 ⟨rfl, hZ1⟩
                have pn := pc.trans (hZ1.mono (by have h9 := pc.size; omega))
                clear pc
                have pc := pn
                clear pn
                (try have kz := kz.below hZ1 kz.lt)
                (try have cz := blk11 kz)
                (try have dfz := fun i => kz.frozen i)
                have sz := HS2.out _ pc
                go_wp2_with fail
                refine hKQ.out _ _ ?s_5b (fun hHeld5 => ?_)
                case s_5b => exact sz
                clear hKQ KQ
                try simp only [Act.put, List.setIfInBounds_toArray, List.set_cons_zero, List.set_cons_succ]
                refine tk 6 { dst := some 34, op := .move (.tmp 40), type := 36, pos := "more.go:42", after := #[{ on := 5, ground := .data }], guard := none } _ ?_
                try simp only [Act.put, List.setIfInBounds_toArray, List.set_cons_zero, List.set_cons_succ]
                refine tk 7 { dst := some 41, op := .extract (.tmp 34) 0, type := 27, pos := "more.go:42", after := #[{ on := 6, ground := .data }], guard := none } _ ?_
                try simp only [Act.put, List.setIfInBounds_toArray, List.set_cons_zero, List.set_cons_succ]
                refine tk 8 { dst := some 42, op := .extract (.tmp 34) 1, type := 35, pos := "more.go:42", after := #[{ on := 6, ground := .data }, { on := 10, ground := .gcOnly Go.Departure.lateStores }], guard := none } _ ?_
                try simp only [Act.put, List.setIfInBounds_toArray, List.set_cons_zero, List.set_cons_succ]
                refine wpAnyH_ready (rs := [10]) (by kernel_rfl) (by simp) ?_
                refine AllReadyH.cons (o := { dst := none, op := .store 27 (.tmp 11) (.tmp 41), type := 0, pos := "more.go:42", after := #[{ on := 9, ground := .data }, { on := 7, ground := .data }, { on := 5, ground := .chain }, { on := 0, ground := .phase }, { on := 1, ground := .phase }, { on := 2, ground := .phase }, { on := 3, ground := .phase }, { on := 4, ground := .phase }, { on := 5, ground := .phase }, { on := 6, ground := .phase }, { on := 7, ground := .phase }, { on := 8, ground := .textOnly Go.Departure.lateStores }, { on := 9, ground := .phase }], guard := none }) rfl (fun KQ hKQ => ?_) AllReadyH.nil
                go_simp
                have sF := put11 (.int .u16 (rv : Int)) (.int .u16 (rw_ : Int)) (.int .u16 (rl : Int)) (.int .i64 re) (.int .i64 rk) (.int .u16 (sv : Int)) (.int .u16 (sw : Int)) (.int .u16 (sl : Int)) (.int .i64 se) (.int .i64 sk) (.bool rt) kz
                have bF := below11 (g := gz) (.int .u16 (rv : Int)) (.int .u16 (rw_ : Int)) (.int .u16 (rl : Int)) (.int .i64 re) (.int .i64 rk) (.int .u16 (sv : Int)) (.int .u16 (sw : Int)) (.int .u16 (sl : Int)) (.int .i64 se) (.int .i64 sk) (.bool rt) pc hgz
                first | (have kk : Blk 27 za gz [.int .u16 0, .int .u16 0, .int .u16 0, .int .i64 0, .int .i64 0, .int .u16 0, .int .u16 0, .int .u16 0, .int .i64 0, .int .i64 0, .bool false] := kz; generalize (((((((((((za.setCell ⟨gz, 0, none⟩ (.int .u16 (rv : Int))).setCell ⟨gz, 1, none⟩ (.int .u16 (rw_ : Int))).setCell ⟨gz, 2, none⟩ (.int .u16 (rl : Int))).setCell ⟨gz, 3, none⟩ (.int .i64 re)).setCell ⟨gz, 4, none⟩ (.int .i64 rk)).setCell ⟨gz, 5, none⟩ (.int .u16 (sv : Int))).setCell ⟨gz, 6, none⟩ (.int .u16 (sw : Int))).setCell ⟨gz, 7, none⟩ (.int .u16 (sl : Int))).setCell ⟨gz, 8, none⟩ (.int .i64 se)).setCell ⟨gz, 9, none⟩ (.int .i64 sk)).setCell ⟨gz, 10, none⟩ (.bool rt)) = wf at *) | (generalize (((((((((((z1.setCell ⟨gz, 0, none⟩ (.int .u16 (rv : Int))).setCell ⟨gz, 1, none⟩ (.int .u16 (rw_ : Int))).setCell ⟨gz, 2, none⟩ (.int .u16 (rl : Int))).setCell ⟨gz, 3, none⟩ (.int .i64 re)).setCell ⟨gz, 4, none⟩ (.int .i64 rk)).setCell ⟨gz, 5, none⟩ (.int .u16 (sv : Int))).setCell ⟨gz, 6, none⟩ (.int .u16 (sw : Int))).setCell ⟨gz, 7, none⟩ (.int .u16 (sl : Int))).setCell ⟨gz, 8, none⟩ (.int .i64 se)).setCell ⟨gz, 9, none⟩ (.int .i64 sk)).setCell ⟨gz, 10, none⟩ (.bool rt)) = wf at *)
                have sS := HS2.out _ bF
                refine hKQ.out _ _ ?s_10b (fun hHeld10 => ?_)
                case s_10b => exact sS
                clear hKQ KQ
                try simp only [Act.put]
                refine tk 11 { dst := some 12, op := .assign (.tmp 42), type := 35, pos := "more.go:42", after := #[{ on := 8, ground := .data }, { on := 10, ground := .chain }, { on := 0, ground := .phase }, { on := 1, ground := .phase }, { on := 2, ground := .phase }, { on := 3, ground := .phase }, { on := 4, ground := .phase }, { on := 5, ground := .phase }, { on := 6, ground := .phase }, { on := 7, ground := .phase }, { on := 8, ground := .phase }, { on := 9, ground := .phase }, { on := 10, ground := .phase }], guard := none } _ ?_
                try simp only [Act.put, List.setIfInBounds_toArray, List.set_cons_zero, List.set_cons_succ]
                refine wpAnyH_done (by kernel_rfl) ?_ _
                go_wp2_with fail
                go_meet
                case rel => exact ⟨gz, rfl, rfl, hgz, sF, Lib.hid bF⟩
            case rest =>
              obtain ⟨g, rfl, rfl, hg_g, kN, hBc⟩ := hcut
              have B2 := hBr.trans (hBc.out.mono hBr.size)
              have K2 := KR.out.below hBc.out hs9
              generalize wc = w3 at *
              clear kN hBc HS2
              go_wp2_with fail
              go_round
              case rel => exact ⟨i + 1, ⟨uv, uw, ul, ue, uk⟩, by omega, by go_num, HU, K2, B2⟩
              case measure => simp [intOf]; omega
        · obtain rfl : i = k := by omega
          go_wp2_with fail
          go_ret
          exact ⟨rfl, HB.out.trans (hBr.mono HB.out.size)⟩
theorem chain_walk (c : CfL) (A : Option Addr) (k cap : Nat) (xs : List CfL) (ga gb : Int) (w : World) (hc : c.ok) (hR : RdCf w w.heap.size A k xs) (hkc : k ≤ cap) (hcm : cap ≤ maxLen) (w1 : (Lit.int .u16 ga).wf = true) (w2 : (Lit.int .u16 gb).wf = true) :
    Calls Try.prog 9 #[cfV c, .slice A k cap, .int .u16 ga, .int .u16 gb] w fun e w' => e = .returned (.bool true) ∧ Below w.heap.size w w' := by
  obtain ⟨ga, rfl, hga⟩ := u16_wf w1
  obtain ⟨gb, rfl, hgb⟩ := u16_wf w2
  exact chain_nat c A k cap xs ga gb w hc hR hkc hcm hga hgb
end Go.Proofs.Ytdpfpcdoocampaa.law10
