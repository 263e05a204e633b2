/- DiskCopies answers true: a copy goes on by itself. Conditions: what the slices read as. -/
import Derived.Test.YtkjaljfoaagfdaaDiskAll
namespace Go.Proofs.Ytkjaljfoaagfdaa.both
open Go.RowKit Go.Proofs.Ytkjaljfoaagfdaa.kit Go.Proofs.Ytkjaljfoaagfdaa.nums Go.Proofs.Ytkjaljfoaagfdaa.ds Go.Proofs.Ytkjaljfoaagfdaa.disk Go.Proofs.Ytkjaljfoaagfdaa.ref4 Go.Proofs.Ytkjaljfoaagfdaa.bytes Go.Proofs.Ytkjaljfoaagfdaa.law0
set_option linter.unusedVariables false

set_option maxRecDepth 100000 in
set_option maxHeartbeats 2000000 in
theorem copies_walk (A : Option Addr) (n c : Nat) (os : List OpL) (A' : Option Addr) (n' c' : Nat) (os' : List OpL) (w : World) (hR : RdOp w w.heap.size A n os) (hO : ∀ x ∈ os, OpOk x) (hnc : n ≤ c) (hcm : c ≤ maxLen) (hR' : RdOp w w.heap.size A' n' os') (hO' : ∀ x ∈ os', OpOk x) (hnc' : n' ≤ c') (hcm' : c' ≤ maxLen) :
    Calls Try.prog 6 #[.slice A n c, .slice A' n' c'] w fun e w' => e = .returned (.bool true) ∧ Below w.heap.size w w' := by
  have hx1 := hcm
  have hx2 := hcm'
  unfold maxLen at hx1 hx2
  have HO := Lib.hid hO
  have HO' := Lib.hid hO'
  go_enter Try.func6, Try.ntmps6
  go_wp2_with fail
  refine (begun_any w).mono ?_
  rintro e w1 ⟨rfl, hB1⟩
  have hR1 := hR.below hB1
  have hR1' := hR'.below hB1
  have C1 := Lib.hid (light_any A n c 40 os w1 _ hR1 (by omega) (by omega))
  have C1' := Lib.hid (light_any A' n' c' 40 os' w1 _ hR1' (by omega) (by omega))
  clear hR hO hR' hO'
  go_wp2_with fail
  refine C1.out.mono ?_
  clear C1
  rintro e w2 ⟨r, rfl, hr, rfl⟩
  rcases r with _ | _
  · go_wp2_with fail
    go_ret
    exact ⟨rfl, hB1⟩
  obtain ⟨hn, hl⟩ := hr rfl
  have HL := Lib.hid hl
  clear hr hl
  go_wp2_with fail
  refine C1'.out.mono ?_
  clear C1'
  rintro e w2 ⟨r, rfl, hr, rfl⟩
  rcases r with _ | _
  · go_wp2_with fail
    go_ret
    exact ⟨rfl, hB1⟩
  obtain ⟨hn', hl'⟩ := hr rfl
  have HL' := Lib.hid hl'
  clear hr hl'
  go_wp2_with fail
  refine (disk.new_any w1).mono ?_
  rintro e w3 ⟨a, fp, rfl, hd, hf, hB3⟩
  go_wp2_with fail
  refine (ref4.new_any w3).mono ?_
  rintro e w4 ⟨rfl, hr4, hB4⟩
  have hb := both_new hd hf hB3 hr4 hB4
  have hB14 := hB3.trans (hB4.mono hB3.size)
  have HC := Lib.hid (show ∀ j, j < n → _ from fun j hj => (hR1.at_ hj))
  have HN := Lib.hid hR1.1
  have HC' := Lib.hid (show ∀ j, j < n' → _ from fun j hj => (hR1'.at_ hj))
  have HN' := Lib.hid hR1'.1
  have h10 := hB1.size
  generalize w3.heap.size = g at *
  clear hB3 hB4 hr4 hd hf hR1 hR1'
  go_wp2_with fail
  go_loopw [7] (fun i wr => ∃ (j : Nat) (fp' : Nat → Prop), j ≤ n ∧ i = .int .i64 j ∧ Both wr w1.heap.size a g (runS DS.fresh (os.take j)) fp' ∧ Below w1.heap.size w1 wr) (fun i _ => n - (intOf i).toNat)
  case atStart => exact ⟨0, fp, by omega, rfl, hb, hB14⟩
  case round =>
    obtain ⟨j, fp', hj, rfl, hb', hB⟩ := hrel
    have hnr := runS_near DS.fresh (os.take j)
    have hjl : (os.take j).length ≤ 40 := by rw [List.length_take]; omega
    have hs : (runS DS.fresh (os.take j)).stepped ≤ 100 := by have : DS.fresh.stepped = 0 := rfl; omega
    have hp : (runS DS.fresh (os.take j)).powers ≤ 100 := by have : DS.fresh.powers = 0 := rfl; omega
    by_cases hlt : j < n
    · obtain ⟨b, o, x, rfl, hbl, hx, h0, h1, h2, v3, v4, h3, h4, hv⟩ := HC.out j hlt
      have hcc := fun i => hB.cell (p := ⟨b, i, none⟩) (show b < w1.heap.size by omega)
      rw [← hcc] at h0 h1 h2 h3 h4
      have hxl := HL.out x (List.mem_of_getElem? hx)
      have C := Lib.hid (do_any w1.heap.size a g _ fp' x v3 v4 wr hb' (by omega) (by omega) (HO.out x (List.mem_of_getElem? hx)) ((hv.more h10).below hB) hB.size hxl.1 hxl.2)
      have HT := Lib.hid (runS_take (S := DS.fresh) hx)
      have i0 : (0 : Int) ≤ j ∧ (j : Int) < n := by omega
      clear hcc
      go_wp2_with fail
      refine C.out.mono ?_
      clear C
      rintro e y1 ⟨fp1, rfl, hb1, hY1⟩
      rw [← HT.out] at hb1
      have hBy := hB.trans hY1
      clear h0 h1 h2 h3 h4 hv hs hp hnr hjl hb' hY1
      go_wp2_with fail
      go_roundw
      case rel => exact ⟨j + 1, fp1, by omega, by go_num, hb1, hBy⟩
      case measure => simp [intOf]; omega
    · obtain rfl : j = n := by omega
      have hbw := hB1.trans (hB.mono h10)
      generalize runS DS.fresh (os.take j) = S at *
      have C1 := Lib.hid (disk.copy_any a S fp' wr hb'.d hb'.good (by omega) (by omega))
      have hBs := hB.size
      have HBo := Lib.hid hb'
      clear hnr hjl hb
      go_wp2_with fail
      refine C1.out.mono ?_
      clear C1
      rintro e y1 ⟨a2, fp2, rfl, hd2, hf2, hY1⟩
      have C2 := Lib.hid (ref4.copy_any g S y1 (HBo.out.below hY1).r)
      go_wp2_with fail
      refine C2.out.mono ?_
      clear C2
      rintro e y2 ⟨rfl, hr2, hY2⟩
      have hY12 := hY1.trans (hY2.mono hY1.size)
      have hb2 : Both y2 wr.heap.size a2 y1.heap.size S fp2 := ⟨hd2.keep (fun k hk => hY2.block k (hd2.lt k hk)), hr2, fun h => by have := hd2.lt _ h; omega, hf2, hY1.size, HBo.out.good⟩
      have hlt2 := fun k hk => HBo.out.d.lt k hk
      have hglt := HBo.out.r.lt
      have hwr : w1.heap.size ≤ wr.heap.size := hBs
      have hbl1 : Below w1.heap.size w1 wr := hB
      obtain ⟨wo, hwo⟩ : ∃ wo, wr = wo := ⟨_, rfl⟩
      subst hwo
      generalize y1.heap.size = g2 at *
      clear hd2 hf2 hr2 hY1 hY2
      go_wp2_with fail
      go_loopw [10] (fun i wq => ∃ (j2 : Nat) (fq : Nat → Prop), j2 ≤ n' ∧ i = .int .i64 j2 ∧ Both wq wr.heap.size a2 g2 (runS S (os'.take j2)) fq ∧ Below wr.heap.size wr wq) (fun i _ => n' - (intOf i).toNat)
      case atStart => exact ⟨0, fp2, by omega, rfl, hb2, hY12⟩
      case round =>
        obtain ⟨j2, fq, hj2, rfl, hbq, hBq⟩ := hrel
        have hnr := runS_near S (os'.take j2)
        have hjl : (os'.take j2).length ≤ 40 := by rw [List.length_take]; omega
        have hsq : (runS S (os'.take j2)).stepped ≤ 1000000 := by omega
        have hpq : (runS S (os'.take j2)).powers ≤ 1000000 := by omega
        by_cases hlt : j2 < n'
        · obtain ⟨b, o, x, rfl, hbl, hx, h0, h1, h2, v3, v4, h3, h4, hv⟩ := HC'.out j2 hlt
          have hcc := fun i => (hBq.cell (p := ⟨b, i, none⟩) (show b < _ by omega)).trans (hbl1.cell (p := ⟨b, i, none⟩) (show b < w1.heap.size by omega))
          rw [← hcc] at h0 h1 h2 h3 h4
          have hxl := HL'.out x (List.mem_of_getElem? hx)
          have C := Lib.hid (do_any _ a2 g2 _ fq x v3 v4 wr hbq hsq hpq (HO'.out x (List.mem_of_getElem? hx)) ((((hv.more h10).below hbl1).more hwr).below hBq) hBq.size hxl.1 hxl.2)
          have HT := Lib.hid (runS_take (S := S) hx)
          have i0 : (0 : Int) ≤ j2 ∧ (j2 : Int) < n' := by omega
          clear hcc
          go_wp2_with fail
          refine C.out.mono ?_
          clear C
          rintro e y1 ⟨fp1, rfl, hb1, hY1⟩
          rw [← HT.out] at hb1
          have hBy := hBq.trans hY1
          clear h0 h1 h2 h3 h4 hv hnr hjl hbq hY1
          go_wp2_with fail
          go_roundw
          case rel => exact ⟨j2 + 1, fp1, by omega, by go_num, hb1, hBy⟩
          case measure => simp [intOf]; omega
        · obtain rfl : j2 = n' := by omega
          have C3 := Lib.hid (same_any _ a2 g2 _ fq wr hbq hsq hpq)
          clear hbq hb2
          go_wp2_with fail
          refine C3.out.mono ?_
          clear C3
          rintro e y3 ⟨rfl, hY3⟩
          have hBz := hBq.trans (hY3.mono hBq.size)
          have C4 := Lib.hid (same_any w1.heap.size a g S fp' y3 (HBo.out.below hBz) (by omega) (by omega))
          go_wp2_with fail
          refine C4.out.mono ?_
          clear C4
          rintro e y4 ⟨rfl, hY4⟩
          go_wp2_with fail
          go_ret
          have hBzz := hBz.trans (hY4.mono hBz.size)
          exact ⟨rfl, hbw.trans (hBzz.mono (Nat.le_trans h10 hwr))⟩
end Go.Proofs.Ytkjaljfoaagfdaa.both
