/- What the document's answer to zone (antipoderef11) comes to: which zones may be. Conditions: slices read as lists of ints. -/
import Derived.Test.YtfcljdpjjabhjaaDoorRef11c
namespace Go.Proofs.YtfcljdpjjabhjaaDoor.ref11
open Go Go.RowKit Go.Proofs.YtfcljdpjjabhjaaDoor.kit Go.Proofs.YtfcljdpjjabhjaaDoor.nums Go.Proofs.YtfcljdpjjabhjaaDoor.se Go.Proofs.YtfcljdpjjabhjaaDoor.cf Go.Proofs.YtfcljdpjjabhjaaDoor.zn Go.Proofs.YtfcljdpjjabhjaaDoor.ref9
set_option linter.unusedVariables false

theorem mayZ_bad {z : ZnL} {i : Nat} (h : mayL (z.lst i) = false) : mayZ z = false := by
  cases hz : mayZ z
  · rfl
  · rw [may_lists hz i] at h; cases h
theorem mayZ_good {z : ZnL} (h : ∀ i, i < 3 → mayL (z.lst i) = true) : mayZ z = (mayN z.e && mayN z.k && mayS z.s) := by
  have h0 : mayL z.v = true := h 0 (by omega)
  have h1 : mayL z.w = true := h 1 (by omega)
  have h2 : mayL z.l = true := h 2 (by omega)
  unfold mayZ; rw [h0, h1, h2]; rfl
theorem mayL_long {l : List Int} {n : Nat} (hl : l.length = n) (h : 4 < n) : mayL l = false := by
  unfold mayL; rw [decide_eq_false (by omega)]; rfl
theorem mayL_bad {l : List Int} (h : withinB l 9 = false) : mayL l = false := by
  unfold mayL; rw [h]; simp
theorem mayL_good {l : List Int} {n : Nat} (hl : l.length = n) (h : ¬ 4 < n) (hw : withinB l 9 = true) : mayL l = true := by
  unfold mayL; rw [decide_eq_true (by omega), hw]; rfl
set_option maxHeartbeats 2000000 in
theorem mayZone_any (a : ZnA) (z : ZnL) (w : World) (B : Nat) (h : RdZ w B a z) (hB : B ≤ w.heap.size) : Calls Tryd.prog 14 #[znV a z] w fun e w' => e = .returned (.bool (mayZ z)) ∧ Below w.heap.size w w' := by
  obtain ⟨h1, h2, h3, b1, b2, b3⟩ := h
  have HBAD := Lib.hid (fun (i : Nat) => mayZ_bad (z := z) (i := i))
  have HGOOD := Lib.hid (fun h => mayZ_good (z := z) h)
  obtain ⟨res, hres⟩ : ∃ res, mayZ z = res := ⟨_, rfl⟩
  rw [hres] at HBAD HGOOD ⊢
  clear hres
  have HLS : Hid (∀ i, z.lst i = if i = 0 then z.v else if i = 1 then z.w else z.l) := fun i => by
    match i with
    | 0 => rfl
    | 1 => rfl
    | _ + 2 => rfl
  obtain ⟨f, hf⟩ : ∃ f, z.lst = f := ⟨_, rfl⟩
  rw [hf] at HBAD HGOOD HLS
  clear hf
  unfold znV
  obtain ⟨z1, n1, c1, z2, n2, c2, z3, n3, c3⟩ := a
  obtain ⟨zv, zw, zl, ze, zk, zs⟩ := z
  dsimp only at *
  have k0 : Blk 24 ((w.alloc (.cells #[.slice z1 n1 c1, .slice z2 n2 c2, .slice z3 n3 c3, .int .i64 ze, .int .i64 zk, .int .i64 zs] 24)).alloc (.cells #[.slice z1 n1 c1, .slice z2 n2 c2, .slice z3 n3 c3] 22)) w.heap.size [.slice z1 n1 c1, .slice z2 n2 c2, .slice z3 n3 c3, .int .i64 ze, .int .i64 zk, .int .i64 zs] := Blk.alloc (heap_alloc_new w _) _
  have k1 : Blk 22 ((w.alloc (.cells #[.slice z1 n1 c1, .slice z2 n2 c2, .slice z3 n3 c3, .int .i64 ze, .int .i64 zk, .int .i64 zs] 24)).alloc (.cells #[.slice z1 n1 c1, .slice z2 n2 c2, .slice z3 n3 c3] 22)) (w.alloc (.cells #[.slice z1 n1 c1, .slice z2 n2 c2, .slice z3 n3 c3, .int .i64 ze, .int .i64 zk, .int .i64 zs] 24)).heap.size [.slice z1 n1 c1, .slice z2 n2 c2, .slice z3 n3 c3] := heap_alloc_new _ _
  have HB := Lib.hid (((Below.refl w.heap.size w).alloc (Nat.le_refl _) (.cells #[.slice z1 n1 c1, .slice z2 n2 c2, .slice z3 n3 c3, .int .i64 ze, .int .i64 zk, .int .i64 zs] 24)).alloc (by simp) (.cells #[.slice z1 n1 c1, .slice z2 n2 c2, .slice z3 n3 c3] 22))
  have hs1 : (w.alloc (.cells #[.slice z1 n1 c1, .slice z2 n2 c2, .slice z3 n3 c3, .int .i64 ze, .int .i64 zk, .int .i64 zs] 24)).heap.size = w.heap.size + 1 := by simp
  rw [hs1] at k1
  obtain ⟨y0, y1, y2⟩ := blk3 k1
  obtain ⟨x0, x1, x2, x3, x4, x5⟩ := blk6 k0
  have HC : Hid (∀ i, i < 3 → ∃ A m c, ((w.alloc (.cells #[.slice z1 n1 c1, .slice z2 n2 c2, .slice z3 n3 c3, .int .i64 ze, .int .i64 zk, .int .i64 zs] 24)).alloc (.cells #[.slice z1 n1 c1, .slice z2 n2 c2, .slice z3 n3 c3] 22)).cell? ⟨w.heap.size + 1, i, none⟩ = some (.slice A m c) ∧ RdV ((w.alloc (.cells #[.slice z1 n1 c1, .slice z2 n2 c2, .slice z3 n3 c3, .int .i64 ze, .int .i64 zk, .int .i64 zs] 24)).alloc (.cells #[.slice z1 n1 c1, .slice z2 n2 c2, .slice z3 n3 c3] 22)) B A m (i64s (f i)) ∧ m ≤ 1099511627776) := fun i hi => by
    have hi3 : i = 0 ∨ i = 1 ∨ i = 2 := by omega
    rcases hi3 with rfl | rfl | rfl
    · exact ⟨_, _, _, y0, by rw [HLS.out]; exact h1.below (HB.out.mono hB), b1⟩
    · exact ⟨_, _, _, y1, by rw [HLS.out]; exact h2.below (HB.out.mono hB), b2⟩
    · exact ⟨_, _, _, y2, by rw [HLS.out]; exact h3.below (HB.out.mono hB), b3⟩
  clear k0 k1 h1 h2 h3 b1 b2 b3 HLS hs1 y0 y1 y2
  go_enter Tryd.func14, Tryd.ntmps14
  go_upto_region 2 with (fail)
  generalize ((w.alloc (.cells #[.slice z1 n1 c1, .slice z2 n2 c2, .slice z3 n3 c3, .int .i64 ze, .int .i64 zk, .int .i64 zs] 24)).alloc (.cells #[.slice z1 n1 c1, .slice z2 n2 c2, .slice z3 n3 c3] 22)) = w1 at *
  go_wp2_with fail
  go_loop [4] (fun iv => ∃ i : Nat, i ≤ 3 ∧ iv = .int .i64 (i : Int) ∧ Hid (∀ k, k < i → mayL (f k) = true)) (fun iv => 3 - (intOf iv).toNat)
  case atStart => exact ⟨0, by omega, rfl, fun k hk => by omega⟩
  case round =>
    obtain ⟨i, hi, rfl, HI⟩ := hrel
    by_cases hlt : i < 3
    · obtain ⟨A1, m, c, hcell, hR, hm⟩ := HC.out i hlt
      have hl := rd_len hR
      have HG := Lib.hid (fun k hk => rd_get hR k hk)
      have HBi := Lib.hid (fun h => HBAD.out i h)
      clear hR HC HBAD HGOOD
      have hlt2 : (i : Int) < 3 := by omega
      by_cases g1 : 4 < m
      · have HN := Lib.hid (HBi.out (mayL_long hl g1))
        clear HG HBi
        go_wp2_with fail
        go_ret
        exact ⟨ret_bool (by rw [HN.out]), HB.out⟩
      · go_wp2_with fail
        go_loop [5] (fun kv => ∃ k : Nat, k ≤ m ∧ kv = .int .i64 (k : Int) ∧ Hid (∀ y ∈ (f i).take k, 0 ≤ y ∧ y ≤ 9)) (fun kv => m - (intOf kv).toNat)
        case atStart => exact ⟨0, by omega, rfl, fun y hy => by simp at hy⟩
        case round =>
          obtain ⟨k, hk, rfl, HK⟩ := hrel
          by_cases hkt : k < m
          · obtain ⟨b, o, x, rfl, hb, hx, hc⟩ := HG.out k hkt
            have HX := Lib.hid hx
            clear hx HG
            by_cases g2 : x < 0
            · have HN := Lib.hid (HBi.out (mayL_bad (within_bad HX.out (by omega))))
              clear HBi HX
              go_wp2_with fail
              go_ret
              exact ⟨ret_bool (by rw [HN.out]), HB.out⟩
            · by_cases g3 : 9 < x
              · have HN := Lib.hid (HBi.out (mayL_bad (within_bad HX.out (by omega))))
                clear HBi HX
                go_wp2_with fail
                go_ret
                exact ⟨ret_bool (by rw [HN.out]), HB.out⟩
              · have HN := Lib.hid (within_more HK.out HX.out ⟨by omega, by omega⟩)
                clear HBi HX HK
                go_wp2_with fail
                go_round
                case rel => exact ⟨k + 1, by omega, by go_num, HN.out⟩
                case measure => simp [intOf]; omega
          · obtain rfl : k = m := by omega
            have HN := Lib.hid (mayL_good hl g1 (within_good HK.out hl))
            clear HG HBi HK
            go_wp2_with fail
            go_round
            case rel => exact ⟨i + 1, by omega, by go_num, fun k hk => by
              by_cases e : k = i
              · subst e; exact HN.out
              · exact HI.out k (by omega)⟩
            case measure => simp [intOf]; omega
    · obtain rfl : i = 3 := by omega
      have HN := Lib.hid (HGOOD.out HI.out)
      unfold mayN mayS at HN
      clear HC HBAD HGOOD HI
      by_cases g0 : 0 ≤ ze
      · by_cases g1 : ze ≤ 9
        · by_cases g2 : 0 ≤ zk
          · by_cases g3 : zk ≤ 9
            · by_cases g4 : 0 ≤ zs
              · by_cases g5 : zs ≤ 2
                · go_wp2_with fail
                  go_ret
                  exact ⟨ret_bool (by rw [HN.out, decide_eq_true g0, decide_eq_true g1, decide_eq_true g2, decide_eq_true g3, decide_eq_true g4, decide_eq_true g5] <;> first | rfl | (simp; done) | (simp; omega)), HB.out⟩
                · go_wp2_with fail
                  go_ret
                  exact ⟨ret_bool (by rw [HN.out, decide_eq_true g0, decide_eq_true g1, decide_eq_true g2, decide_eq_true g3, decide_eq_true g4, decide_eq_false (show ¬ zs ≤ 2 by omega)] <;> first | rfl | (simp; done) | (simp; omega)), HB.out⟩
              · go_wp2_with fail
                go_ret
                exact ⟨ret_bool (by rw [HN.out, decide_eq_true g0, decide_eq_true g1, decide_eq_true g2, decide_eq_true g3, decide_eq_false (show ¬ 0 ≤ zs by omega)] <;> first | rfl | (simp; done) | (simp; omega)), HB.out⟩
            · go_wp2_with fail
              go_ret
              exact ⟨ret_bool (by rw [HN.out, decide_eq_true g0, decide_eq_true g1, decide_eq_true g2, decide_eq_false (show ¬ zk ≤ 9 by omega)] <;> first | rfl | (simp; done) | (simp; omega)), HB.out⟩
          · go_wp2_with fail
            go_ret
            exact ⟨ret_bool (by rw [HN.out, decide_eq_true g0, decide_eq_true g1, decide_eq_false (show ¬ 0 ≤ zk by omega)] <;> first | rfl | (simp; done) | (simp; omega)), HB.out⟩
        · go_wp2_with fail
          go_ret
          exact ⟨ret_bool (by rw [HN.out, decide_eq_true g0, decide_eq_false (show ¬ ze ≤ 9 by omega)] <;> first | rfl | (simp; done) | (simp; omega)), HB.out⟩
      · go_wp2_with fail
        go_ret
        exact ⟨ret_bool (by rw [HN.out, decide_eq_false (show ¬ 0 ≤ ze by omega)] <;> first | rfl | (simp; done) | (simp; omega)), HB.out⟩
end Go.Proofs.YtfcljdpjjabhjaaDoor.ref11
