/- What the statements' wipe comes to: it writes into what is owned only. Conditions: those that the theorem names. -/
import Derived.Test.YteadkgjikaikjaaVs12
import Derived.Test.YteadkgjikaikjaaKitLg
import Derived.Test.YteadkgjikaikjaaTk
import Derived.Deep.RegionHeld3
import Derived.Deep.Cut
import Derived.Lib.Hide
namespace Go.Proofs.Yteadkgjikaikjaa.law12
open Go Go.RowKit Go.Proofs.Yteadkgjikaikjaa.kit Go.Proofs.Yteadkgjikaikjaa.nums Go.Proofs.Yteadkgjikaikjaa.cf Go.Proofs.Yteadkgjikaikjaa.lg
set_option linter.unusedVariables false
set_option maxHeartbeats 4000000 in
theorem wipe_any (L : LgL) (A : Option Addr) (n c : Nat) (es : List EnL) (w : World) (base : Nat) (hO : OwnE w base (.slice A n c) es) (hb : base ≤ w.heap.size) (hn : n ≤ 3000000) : Calls Try.prog 34 #[lgV L (.slice A n c)] w fun e w' => e = .returned (.tuple #[]) ∧ Below base w w' ∧ (∀ q, q < w.heap.size → (∀ b o, A = some ⟨b, o, none⟩ → b ≠ q) → w'.heap[q]? = w.heap[q]?) := by
  have hn0 := hO.cap.1
  have hnc := hO.cap.2.1
  rcases hO.2 with ⟨hv, hz⟩ | ⟨g, cap, cur, hv, hbg, hg, hnc2, hcm, hcs, _⟩
  · skip
    have hz2 : n = 0 := by rw [hn0]; exact hz
    clear hO hn0 hz hv
    subst hz2
    have hb0 := Lib.hid hb
    go_enter Try.func34, Try.ntmps34
    go_wp2_with (refine kit.box_L rfl _ rfl L (.slice A 0 c) rfl ?_)
    intro y1 kL e1 s1
    clear s1
    have HB := e1
    clear e1
    have cL : _ = some _ := kL.cell 13
    go_wp2_with (first | refine kit.lo_L _ rfl rfl rfl kL ?_)
    have BkL := Lib.hid kL
    clear kL
    have BH := Lib.hid HB
    clear HB
    go_loopw [2] (fun iv wr => iv = .int .i64 0 ∧ Hid (Below y1.heap.size y1 wr)) (fun iv _ => 0)
    case atStart => exact ⟨rfl, Lib.hid (Below.refl _ _)⟩
    case round =>
      obtain ⟨rfl, HY⟩ := hrel
      have kL := BkL.out.below HY.out BkL.out.lt
      have HB := HY.out
      have cL : _ = some _ := kL.cell 13
      go_wp2_with (first | refine kit.lo_L _ rfl rfl rfl kL ?_)
      have HBB := BH.out.trans (HB.mono BH.out.size)
      go_end0
      exact ⟨rfl, HBB.mono hb0.out, fun q hq _ => HBB.block q hq⟩
  · skip
    simp only [Value.slice.injEq] at hv
    obtain ⟨hvA, hvn, hvc⟩ := hv
    subst hvA
    subst hvc
    clear hO hvn
    have hb0 := Lib.hid hb
    replace hg := Lib.hid hg
    replace hcs := Lib.hid hcs
    replace hn0 := Lib.hid hn0
    replace hbg := Lib.hid hbg
    go_enter Try.func34, Try.ntmps34
    go_wp2_with (refine kit.box_L rfl _ rfl L (.slice (some ⟨g, 0, none⟩) n c) rfl ?_)
    intro y1 kL e1 s1
    clear s1
    have HB := e1
    clear e1
    have hgL := Lib.hid (show g ≠ w.heap.size from Nat.ne_of_lt (Array.getElem?_eq_some_iff.1 hg.out).1)
    have hg1 := Lib.hid ((HB.block g (Array.getElem?_eq_some_iff.1 hg.out).1).trans hg.out)
    have cL : _ = some _ := kL.cell 13
    go_wp2_with (first | refine kit.lo_L _ rfl rfl rfl kL ?_)
    have HB0 := Lib.hid (HB.mono hb0.out)
    have HO0 := Lib.hid (fun q (hq : q < w.heap.size) (_ : q ≠ g) => HB.block q hq)
    clear HB cL
    go_loopw [2] (fun iv wr => ∃ i : Nat, i ≤ n ∧ iv = .int .i64 (i : Int) ∧ Hid (∃ cur : Array Value, wr.heap[g]? = some (.cells cur 37 (0, 0)) ∧ cur.size = c * 14) ∧ Hid (Blk 30 wr w.heap.size (lgC L (.slice (some ⟨g, 0, none⟩) n c))) ∧ Hid (Below base w wr) ∧ Hid (∀ q, q < w.heap.size → q ≠ g → wr.heap[q]? = w.heap[q]?)) (fun iv _ => n - (intOf iv).toNat)
    case atStart => exact ⟨0, Nat.zero_le _, rfl, Lib.hid ⟨_, hg1.out, hcs.out⟩, Lib.hid kL, HB0, HO0⟩
    case round =>
      obtain ⟨i, hi, rfl, HC, HK, HY, HO⟩ := hrel
      clear kL
      have kL := HK.out
      have cL : _ = some _ := kL.cell 13
      by_cases hin : i < n
      · skip
        obtain ⟨cur2, hc1, hc2⟩ := HC.out
        have hii : (i : Int) < (n : Int) := by omega
        have hi0 : (0 : Int) ≤ (i : Int) := by omega
        have wi : IntKind.i64.wrap (i : Int) = (i : Int) := kit.wrap_sm (by omega) (by omega)
        have wk : IntKind.i64.wrap ((i : Int) + 1) = ((i + 1 : Nat) : Int) := by rw [kit.wrap_sm (by omega) (by omega)]; omega
        have hfit : i * 14 + 14 ≤ cur2.size := by rw [hc2]; omega
        replace hc1 := Lib.hid hc1
        replace hfit := Lib.hid hfit
        replace hc2 := Lib.hid hc2
        go_wp2_with (refine wpList_st_at rfl _ _ _ rfl g (i * 14) zEc.toArray cur2 _ rfl rfl hc1.out sizeEv hfit.out rfl ?_)
        intro y6 cur3 h3 h4 pO
        have kL2 := kL.put pO (Ne.symm hgL.out)
        have HB3 := pO.below _ _ HY.out hbg.out
        have HO3 := Lib.hid (fun q (hq : q < w.heap.size) (hne : q ≠ g) => (pO.other q hne).trans (HO.out q hq hne))
        have hc4 : cur3.size = c * 14 := h4.trans hc2.out
        clear kL cL
        replace kL2 := Lib.hid kL2
        replace h3 := Lib.hid h3
        replace hc4 := Lib.hid hc4
        replace HB3 := Lib.hid HB3
        clear h4 pO
        go_wp2_with fail
        go_roundw
        case rel => exact ⟨i + 1, by omega, rfl, Lib.hid ⟨_, h3.out, hc4.out⟩, kL2, HB3, HO3⟩
        case measure => simp only [intOf]; omega
      · skip
        obtain rfl : i = n := by omega
        have hii : ¬ ((i : Int) < (i : Int)) := by omega
        go_wp2_with fail
        go_end0
        exact ⟨rfl, HY.out, fun q hq hne => HO.out q hq (by first | exact Ne.symm (hne g 0 rfl) | exact fun h => hne h.symm)⟩
end Go.Proofs.Yteadkgjikaikjaa.law12
