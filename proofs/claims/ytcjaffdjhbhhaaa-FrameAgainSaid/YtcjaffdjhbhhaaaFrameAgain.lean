/- FrameAgain answers true: what is scanned, written anew, is the good beginning. Conditions: what the slice reads as. -/
import Derived.Test.YtcjaffdjhbhhaaaFrameLaw
import Derived.Test.YtcjaffdjhbhhaaaKitS
import Derived.BigQuiet
import Derived.Deep.Cut
namespace Go.Proofs.Ytcjaffdjhbhhaaa.frameLaw
open Go.RowKit Go.Proofs.Ytcjaffdjhbhhaaa.kit Go.Proofs.Ytcjaffdjhbhhaaa.nums Go.Proofs.Ytcjaffdjhbhhaaa.crc Go.Proofs.Ytcjaffdjhbhhaaa.bytes Go.Proofs.Ytcjaffdjhbhhaaa.rec_ Go.Proofs.Ytcjaffdjhbhhaaa.ref3 Go.Proofs.Ytcjaffdjhbhhaaa.law0
set_option linter.unusedVariables false

theorem chain_all {l : List Int} (hY : Byt l) {L : List (List Int)} {q : Nat} (h : Chain l 0 L q) : upto L L.length = l.take q := by
  have := Chain.again hY h (by omega) (by omega)
  rw [upto_all]
  simpa using this

set_option maxHeartbeats 2000000 in
theorem again (A : Option Addr) (n c : Nat) (l : List Int) (w : World) (hR : Rd w w.heap.size A n l) (hY : Byt l) (hnc : n ≤ c) (hcm : c ≤ maxLen) :
    Calls Try.prog 7 #[.slice A n c] w fun e w' => e = .returned (.bool true) ∧ Below w.heap.size w w' := by
  have hx1 := hcm
  unfold maxLen at hx1
  have HN := Lib.hid hR.len
  go_enter Try.func7, Try.ntmps7
  go_wp2_with fail
  refine (begun_any _).mono ?_
  rintro e w1 ⟨rfl, hB1⟩
  by_cases h1 : 8192 < n
  · go_wp2_with fail
    go_ret
    exact ⟨rfl, hB1⟩
  have hR1 := hR.on hB1 hB1.size
  have C1 := Lib.hid (frame.scan_any A n c l w1 hR1 hY (by omega) hnc hcm)
  go_wp2_with fail
  refine C1.out.mono ?_
  clear C1
  rintro e w2 ⟨A3, n3, c3, xs, L, q, rfl, hx3, hL3, hsc, hO3, hS3, hB2⟩
  have HU := Lib.hid (chain_all hY hsc.1)
  have hgood := Chain.good hY hsc.1 (by omega) (by omega)
  have hqn : q ≤ n := by have := HN.out; omega
  have hRL := rds_of hO3 hx3 hL3 hS3
  have hB12 := hB1.trans (hB2.mono hB1.size)
  have hR2 := hR.on hB12 hB12.size
  have HG := Lib.hid hgood.2.2
  have HL := Lib.hid hL3
  have HC := Lib.hid (show ∀ j, j < n3 → _ from fun j hj => hRL.at2 hj)
  have hn3 : n3 ≤ 8192 := by omega
  have HSc := Lib.hid hsc
  clear hO3 hS3 hx3 hRL hgood hsc hR1 hR hL3
  go_wp2_with fail
  go_loopw [5, 6] (fun cc i wr => ∃ (j k : Nat) (Ac : Option Addr) (kc : Nat), j ≤ n3 ∧ i = .int .i64 j ∧ cc = .slice Ac k kc ∧ Hid ((upto L j).length = k) ∧ Own 5 wr w2.heap.size (.slice Ac k kc) (upto L j) ∧ Below w2.heap.size w2 wr) (fun _ i _ => n3 - (intOf i).toNat)
  case atStart => exact ⟨0, 0, none, 0, by omega, rfl, rfl, rfl, Own.nil _ _ _, Below.refl _ _⟩
  case round =>
    obtain ⟨j, k, Ac, kc, hj, rfl, rfl, HK, hO, hB⟩ := hrel
    by_cases hlt : j < n3
    · obtain ⟨b, o, Aj, cj, s, rfl, hbB, hLj, hcell0, hl1, hl2, hRj⟩ := HC.out j hlt
      have hcell : wr.cell? ⟨b, o + j, none⟩ = some (.slice Aj s.length cj) := by rw [hB.cell (p := ⟨b, o + j, none⟩) hbB]; exact hcell0
      have hs := HG.out s (List.mem_of_getElem? hLj)
      have hk : (upto L j).length ≤ 8192 := by
        obtain ⟨post, hp⟩ := upto_more L j
        have := congrArg List.length hp
        rw [HU.out, List.length_append, List.length_take, HN.out] at this
        omega
      have hkl := HK.out
      have C := Lib.hid (frame.put_any Ac k kc (upto L j) Aj s.length cj s wr (hO.rd HK.out) (hRj.on hB hB.size) hs.1 (by omega) (hO.caps HK.out).1 (hO.caps HK.out).2 hs.2 hl1 hl2)
      have HUS := Lib.hid (upto_succ hLj)
      generalize s.length = m at *
      clear hcell0 hRj hLj hkl
      go_wp2_with fail
      refine C.out.mono ?_
      clear C
      rintro e w4 ⟨A4, c4, rfl, hl4, hO4, hB4⟩
      rw [← HUS.out] at hl4 hO4
      go_wp2_with fail
      go_roundw
      case rel => exact ⟨j + 1, k + (8 + m), A4, c4, by omega, by go_num, rfl, hl4, hO4.more hB.size, hB.trans (hB4.mono hB.size)⟩
      case measure => simp [intOf]; omega
    · obtain rfl : j = n3 := by omega
      have hBw := hB12.trans (hB.mono hB12.size)
      have C := Lib.hid (frame.next_any A n c l q wr (hR2.on hB hB.size) hY (by omega) hnc hcm (by omega) (by omega))
      have hT : upto L j = l.take q := by rw [← HU.out, HL.out]
      rw [hT] at hO HK
      have hkq : k = q := by have := HK.out; rw [List.length_take, HN.out] at this; omega
      subst hkq
      have hRw := hR2.on hB hB.size
      go_wp2_with fail
      refine C.out.mono ?_
      clear C
      rintro e w5 ⟨A5, n5, c5, rfl, hl5, hO5, hB5⟩
      have hO6 := hO.below hB5
      have hv1 := fun a => str_own (w := w5.drewN a) hO6 HK.out
      have hR5 := (hRw.on hB5 hB5.size).upto hqn
      have hv2 := fun a => run_string_rd (P := Try.prog) (w5.drewN a) 22 5 9 Try.underlying22 Try.underlying5 Try.underlying9 w5.heap.size A k c (l.take k) hR5
      have hE := HSc.out.2
      have hB5w := hBw.trans (hB5.mono hBw.size)
      obtain ⟨ee, hee⟩ : ∃ ee, nextE l k = ee := ⟨_, rfl⟩
      rw [hee] at hE ⊢
      generalize strOfNums (l.take k) = T at *
      have hne : (ee != 0) = true := by simpa using hE
      have hc0 : (0 : Int) ≤ k ∧ (k : Int) ≤ c := by omega
      clear hee hO6 hR5 hRw hO5 hO hl5 HSc HU HG HC hR2 hT
      rcases A with _ | ad
      · go_upto_region 15 with (fail)
        go_quiet (fail)
        go_wp2_with fail
        go_ret
        exact ⟨rfl, hB5w.trans (below_drewN (Below.refl _ _) _)⟩
      · go_upto_region 15 with (fail)
        go_quiet (fail)
        go_wp2_with fail
        go_ret
        exact ⟨rfl, hB5w.trans (below_drewN (Below.refl _ _) _)⟩
end Go.Proofs.Ytcjaffdjhbhhaaa.frameLaw
