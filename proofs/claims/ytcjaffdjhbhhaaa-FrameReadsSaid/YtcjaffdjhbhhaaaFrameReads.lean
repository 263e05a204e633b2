/- FrameReads answers true: which records stand in bytes, one by one and all; what is told may be written over. Conditions: what the slice reads as. -/
import Derived.Test.YtcjaffdjhbhhaaaFrameLaw
import Derived.Test.YtcjaffdjhbhhaaaKitS
import Derived.BigQuiet
import Derived.Deep.Cut
namespace Go.Proofs.Ytcjaffdjhbhhaaa.frameLaw
open Go.RowKit Go.Proofs.Ytcjaffdjhbhhaaa.kit Go.Proofs.Ytcjaffdjhbhhaaa.nums Go.Proofs.Ytcjaffdjhbhhaaa.crc Go.Proofs.Ytcjaffdjhbhhaaa.bytes Go.Proofs.Ytcjaffdjhbhhaaa.rec_ Go.Proofs.Ytcjaffdjhbhhaaa.ref3 Go.Proofs.Ytcjaffdjhbhhaaa.law0
set_option linter.unusedVariables false

set_option maxRecDepth 100000 in
set_option maxHeartbeats 4000000 in
theorem reads (A : Option Addr) (n c : Nat) (l : List Int) (p : Int) (w : World) (hR : Rd w w.heap.size A n l) (hY : Byt l) (hnc : n ≤ c) (hcm : c ≤ maxLen) (hp : (Lit.int .i64 p).wf = true) :
    Calls Try.prog 4 #[.slice A n c, .int .i64 p] w fun e w' => e = .returned (.bool true) ∧ Below w.heap.size w w' := by
  have hx1 := hcm
  unfold maxLen at hx1
  have HN := Lib.hid hR.len
  have p0 : -9223372036854775808 ≤ p ∧ p ≤ 9223372036854775807 := by simpa [Lit.wf, IntKind.min, IntKind.max, IntKind.signed, IntKind.bits] using hp
  clear hp
  go_enter Try.func4, Try.ntmps4
  go_wp2_with fail
  refine (begun_any _).mono ?_
  rintro e w1 ⟨rfl, hB1⟩
  by_cases h1 : 16384 < n
  · go_wp2_with fail
    go_ret
    exact ⟨rfl, hB1⟩
  go_wp2_with fail
  refine (twin_any A n c l w1 (hR.on hB1 hB1.size) (by omega)).mono ?_
  rintro e w2 ⟨rfl, hT2, hB2⟩
  have hBw2 := hB1.trans (hB2.mono hB1.size)
  have hg : w.heap.size ≤ w1.heap.size := hB1.size
  generalize w1.heap.size = g at *
  clear hB1 hB2
  have HR := Lib.hid hR
  clear hR
  go_wp2_with fail
  go_loopw [6] (fun i wr => ∃ j : Nat, j ≤ 2 ∧ i = .int .i64 j ∧ IsTwin wr g l ∧ Below w.heap.size w wr) (fun i _ => 2 - (intOf i).toNat)
  case atStart => exact ⟨0, by omega, rfl, hT2, hBw2⟩
  case round =>
    obtain ⟨j, hj, rfl, hT, hB⟩ := hrel
    by_cases hlt : j < 2
    · have hRw := HR.out.on hB hB.size
      have C1 := Lib.hid (frame.next_any (some ⟨g, 0, none⟩) n (n + 3) l p wr (hT.rd HN.out hT.lt) hY (by omega) (by omega) (by unfold maxLen; omega) p0.1 p0.2)
      go_wp2_with fail
      refine C1.out.mono ?_
      clear C1
      rintro e x1 ⟨A1, n1, c1, rfl, hl1, hO1, hX1⟩
      have C2 := Lib.hid (next3_any A n c l p x1 (hRw.on hX1 hX1.size) hY (by omega) hnc hcm p0.1 p0.2)
      go_wp2_with fail
      refine C2.out.mono ?_
      clear C2
      rintro e x2 ⟨A2, n2, c2, rfl, hl2, hO2, hX2⟩
      have hTx1 := hT.below hX1 hT.lt
      have hTx2 := hTx1.below hX2 hTx1.lt
      have hX12 := hX1.trans (hX2.mono hX1.size)
      have C3 := Lib.hid (frame.scan_any (some ⟨g, 0, none⟩) n (n + 3) l x2 (hTx2.rd HN.out hTx2.lt) hY (by omega) (by omega) (by unfold maxLen; omega))
      go_wp2_with fail
      refine C3.out.mono ?_
      clear C3
      rintro e x3 ⟨A3, n3, c3, xs, L, q, rfl, hxs, hL, hsc, hO3, hS3, hX3⟩
      have hX13 := hX12.trans (hX3.mono hX12.size)
      have C4 := Lib.hid (scan3_any A n c l x3 (hRw.on hX13 hX13.size) hY (by omega) hnc hcm)
      go_wp2_with fail
      refine C4.out.mono ?_
      clear C4
      rintro e x4 ⟨A4, n4, c4, ys, L', q', rfl, hys, hL', hsc', hO4, hS4, hX4⟩
      obtain ⟨e1, e2⟩ := hsc'.same hsc
      obtain rfl : L = L' := e1.symm
      rw [e2]
      obtain rfl : n1 = n2 := hl1.symm.trans hl2
      obtain rfl : n4 = n3 := hL'.symm.trans hL
      have hX14 := hX13.trans (hX4.mono hX13.size)
      have hTx3 := hTx2.below hX3 hTx2.lt
      have hTx4 := hTx3.below hX4 hTx3.lt
      have hO1b := (hO1.below hX2).below (hX3.trans (hX4.mono hX3.size))
      have hv1 := str_own hO1b hl1
      have hv2 := str_own (hO2.below (hX3.trans (hX4.mono hX3.size))) hl2
      have D := Lib.hid (kept_any g A n c l x4 _ hTx4 (hRw.on hX14 hX14.size) (by omega))
      have HL1 := Lib.hid hl1
      generalize nextR l p = rr at *
      generalize strOfNums rr = T1 at *
      generalize nextN l p = N1 at *
      generalize nextE l p = E1 at *
      have hn4 : n4 ≤ 16384 := by
        have := Chain.good hY hsc.1 (by omega) (by omega)
        have h2 := HN.out
        omega
      have s1 := hX1.size
      have s2 := hX2.size
      have s3 := hX3.size
      have s4 := hX4.size
      have hO3b := hO3.below hX4
      have HS3 := Lib.hid (hS3.below hX4)
      have HS3a := Lib.hid hS3
      have HO1 := Lib.hid hO1b
      have HO1a := Lib.hid hO1
      clear hsc hsc' hX2 hX3 hX4 hX12 hX13 hO2 hO3 hS3 hO1 hO1b hTx1 hTx2 hTx3 e2 hl1 hl2
      go_wp2_with fail
      refine D.out.mono ?_
      clear D hv1 hv2
      rintro e y1 ⟨rfl, rfl⟩
      go_wp2_with fail
      have hlt43 := fun (jj : Nat) (x : Value) (s : List Int) (h1 : xs[jj]? = some x) (h2 : L[jj]? = some s) => (HS3a.out.1 jj x s h1 h2).lt
      have HLT := Lib.hid hlt43
      clear hlt43
      go_loopw [17] (fun ii wr => ∃ i : Nat, i ≤ n4 ∧ ii = .int .i64 i ∧ OwnV 22 wr x2.heap.size (.slice A3 n4 c3) xs ∧ OwnsFrom 5 wr x2.heap.size i xs L ∧ OwnV 22 wr x3.heap.size (.slice A4 n4 c4) ys ∧ OwnsOf 5 wr x3.heap.size ys L ∧ Below x2.heap.size x4 wr) (fun ii _ => n4 - (intOf ii).toNat)
      case atStart => exact ⟨0, by omega, rfl, hO3b, HS3.out.from_, hO4, hS4, Below.refl _ _⟩
      case round =>
        obtain ⟨i, hi, rfl, hOx, hSx, hOy, hSy, hBi⟩ := hrel
        by_cases hlt2 : i < n4
        · have hLi : L[i]? = some L[i] := List.getElem?_eq_getElem (by omega)
          obtain ⟨X, cX, hvX, _, _, hVX⟩ := hOx.slice
          rw [hxs] at hvX hVX
          simp only [Value.slice.injEq] at hvX
          obtain ⟨rfl, -, rfl⟩ := hvX
          obtain ⟨b5, o5, u, rfl, hu, hcu⟩ := hVX.at_ hlt2
          obtain ⟨Y, cY, hvY, _, _, hVY⟩ := hOy.slice
          rw [hys] at hvY hVY
          simp only [Value.slice.injEq] at hvY
          obtain ⟨rfl, -, rfl⟩ := hvY
          obtain ⟨b6, o6, v, rfl, hv, hcv⟩ := hVY.at_ hlt2
          have hOu := hSx i u L[i] (Nat.le_refl _) hu hLi
          have hOv := hSy.1 i v L[i] hv hLi
          obtain ⟨Au, cu, rfl, _, _, hRu⟩ := hOu.slice
          obtain ⟨Av, cv, rfl, _, _, hRv⟩ := hOv.slice
          have hult := HLT.out i _ _ hu hLi
          have hw1 := fun a => run_string_rd (P := Try.prog) (wr.drewN a) 22 5 9 Try.underlying22 Try.underlying5 Try.underlying9 wr.heap.size Au L[i].length cu L[i] hRu
          have hw2 := fun a => run_string_rd (P := Try.prog) (wr.drewN a) 22 5 9 Try.underlying22 Try.underlying5 Try.underlying9 wr.heap.size Av L[i].length cv L[i] hRv
          have CS := Lib.hid (fun a => spoil_any Au L[i].length cu L[i] (wr.drewN a) x2.heap.size hOu)
          have HU := Lib.hid (And.intro hu hLi)
          have HOu := Lib.hid hOu
          generalize hs : L[i] = s at *
          generalize strOfNums s = T at *
          have HSl := Lib.hid (show s.length = s.length from rfl)
          obtain ⟨ls, hls⟩ : ∃ ls, s.length = ls := ⟨_, rfl⟩
          rw [hls] at hcu hcv hw1 hw2 CS HU HOu hult
          clear hls HSl hRu hRv hOu hOv hVX hVY hu hv hLi hs
          go_upto_region 18 with (fail)
          go_quiet (fail)
          go_wp2_with fail
          refine (CS.out _).mono ?_
          clear CS
          rintro e z1 ⟨rfl, hG⟩
          have hGr : wr.grownBy z1 (Value.ownBlock (.slice Au ls cu)) := ⟨hG.os, hG.tape, hG.output, hG.size, hG.block⟩
          have r1 := hOx.grown hGr (fun k hk e => own_apart (by decide) HOu.out hOx e hk)
          have r2 := hOy.grown hGr (fun k hk e => own_apart (by decide) HOu.out hOy e hk)
          have r3 := hSx.step HS3.out.2 HU.out.1 hGr
          have r4 : OwnsOf 5 z1 x3.heap.size ys L := ⟨fun jj y m hy hm => (hSy.1 jj y m hy hm).grown hGr (fun k hk e => by have := ((hSy.1 jj y m hy hm).lt k hk).1; have := (hult k e).2; omega), hSy.2⟩
          have r5 : Below x2.heap.size x4 z1 := hBi.grown hGr (Nat.le_trans s3 (Nat.le_trans s4 hBi.size)) (fun k hk => (hult k hk).1)
          clear hG hGr hcu hcv hw1 hw2
          go_wp2_with fail
          go_roundw
          case rel => exact ⟨i + 1, by omega, by go_num, r1, r3, r2, r4, r5⟩
          case measure => simp [intOf]; omega
        · obtain rfl : i = n4 := by omega
          have hOz := HO1.out.below' hBi (fun k hk => Nat.lt_of_lt_of_le (HO1a.out.lt k hk).2 s2)
          have CS := Lib.hid (spoil_any A1 n1 c1 rr wr _ hOz)
          go_wp2_with fail
          refine CS.out.mono ?_
          clear CS
          rintro e z1 ⟨rfl, hG⟩
          have F := (hX14.trans (hBi.mono (Nat.le_trans s1 s2))).grown hG (Nat.le_trans (Nat.le_trans s1 s2) (Nat.le_trans (Nat.le_trans s3 s4) hBi.size)) (fun k hk => (HO1a.out.lt k hk).1)
          have hT9 := hT.below F hT.lt
          have hB9 := hB.trans (F.mono hB.size)
          clear hG F hOx hSx hOy hSy hBi hO3b hO4 hS4 hOz
          go_wp2_with fail
          go_roundw
          case rel => exact ⟨j + 1, by omega, by go_num, hT9, hB9⟩
          case measure => simp [intOf]; omega
    · obtain rfl : j = 2 := by omega
      go_wp2_with fail
      go_ret
      exact ⟨rfl, hB⟩
end Go.Proofs.Ytcjaffdjhbhhaaa.frameLaw
