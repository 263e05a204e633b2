/- BitsReads answers true: what stands in bytes is read as the document has it, and nothing is written. No condition. -/
import Derived.Test.YtdadhpghdblgnaaBegun
import Derived.Test.YtdadhpghdblgnaaGetR
import Derived.Test.YtdadhpghdblgnaaTake
import Derived.Test.YtdadhpghdblgnaaTwin
namespace Go.Proofs.Ytdadhpghdblgnaa.reads
open Go.RowKit Go.Proofs.Ytdadhpghdblgnaa.kit Go.Proofs.Ytdadhpghdblgnaa.nums Go.Proofs.Ytdadhpghdblgnaa.bytes
set_option linter.unusedVariables false

theorem text_of {l : List Int} {A : Option Addr} {n c base : Nat} {w : World} (hO : Own 5 w base (.slice A n c) l) (hn : l.length = n) :
    (convert 22 9 (.slice A n c)).run Try.prog w = .ok (.string (strOfNums l)) w := by
  obtain ⟨A', c', hv, _, _, hR⟩ := hO.slice
  simp only [Value.slice.injEq] at hv
  obtain ⟨rfl, rfl, rfl⟩ := hv
  exact run_string_rd w 22 5 9 Try.underlying22 Try.underlying5 Try.underlying9 w.heap.size A _ c l hR

set_option maxRecDepth 100000 in
set_option maxHeartbeats 1000000 in
theorem walk_small (A : Option Addr) (n c : Nat) (l : List Int) (p k : Int) (w : World) (hR : Rd w w.heap.size A n l) (hY : Byt l) (hc : n ≤ c) (hn : n ≤ 65536) (hpm : p ≤ 9223372036854775807) :
    Calls Try.prog 4 #[.slice A n c, .int .i64 p, .int .i64 k] w fun e w' => e = .returned (.bool true) ∧ Below w.heap.size w w' := by
  go_enter Try.func4, Try.ntmps4
  go_wp2_with fail
  refine (begun_any _).mono ?_
  rintro e w1 ⟨rfl, hB1⟩
  have hR1 := hR.on hB1 hB1.size
  go_wp2_with fail
  refine (twin_any A n c l w1 hR1 (by omega)).mono ?_
  rintro e w2 ⟨rfl, hT, hB2⟩
  have hBB := hB1.trans (hB2.mono hB1.size)
  have hg : w.heap.size ≤ w1.heap.size := hB1.size
  generalize w1.heap.size = g at *
  clear hB1 hB2 hR1
  go_wp2_with fail
  go_loopw [8] (fun i wr => ∃ j : Nat, j ≤ 2 ∧ i = .int .i64 j ∧ IsTwin wr g l ∧ Below w.heap.size w wr) (fun i _ => 2 - (intOf i).toNat)
  case atStart => exact ⟨0, by omega, rfl, hT, hBB⟩
  case round =>
    obtain ⟨j, hj, rfl, hT', hB'⟩ := hrel
    by_cases hlt : j < 2
    · have hRw := hR.on hB' hB'.size
      have hRt := hT'.rd hRw.len hT'.lt
      obtain ⟨c1, c2⟩ := get_both (some ⟨g, 0, none⟩) A n (n + 3) c l p k wr wr _ _ hRt hRw hY (by omega) (by omega) hpm
      have C1 := Lib.hid c1
      have C2 := Lib.hid c2
      have C3 := Lib.hid (takeVar_any (some ⟨g, 0, none⟩) n (n + 3) l wr _ hRt hY (by omega))
      have C4 := Lib.hid (rtakeVar_any A n c l wr _ hRw hY (by omega))
      have C5 := Lib.hid (takeText_any (some ⟨g, 0, none⟩) n (n + 3) l wr hRt hY (by omega) (by omega))
      clear c1 c2
      generalize getV l p k = gv at *
      generalize getE l p k = ge at *
      generalize (takeV l).1 = tv1 at *
      generalize (takeV l).2.1 = tv2 at *
      generalize (takeV l).2.2 = tv3 at *
      go_wp2_with fail
      refine C1.out.mono ?_
      rintro e w3 ⟨rfl, rfl⟩
      go_wp2_with fail
      refine C2.out.mono ?_
      rintro e w3 ⟨rfl, rfl⟩
      go_wp2_with fail
      refine C3.out.mono ?_
      rintro e w3 ⟨rfl, rfl⟩
      go_wp2_with fail
      refine C4.out.mono ?_
      rintro e w3 ⟨rfl, rfl⟩
      go_wp2_with fail
      refine C5.out.mono ?_
      rintro e w3 ⟨A3, n3, c3, rfl, hl3, hO3, hB3⟩
      have hRw3 := hRw.on hB3 hB3.size
      have C6 := Lib.hid (rtakeText_any A n c l w3 hRw3 hY (by omega) (by omega))
      clear C1 C2 C3 C4 C5
      go_wp2_with fail
      refine C6.out.mono ?_
      rintro e w4 ⟨A4, n4, c4, rfl, hl4, hO4, hB4⟩
      clear C6
      have hO34 := hO3.below hB4
      have hB34 := hB3.trans (hB4.mono hB3.size)
      have hT4 := hT'.below hB34 hT'.lt
      have hcv3 := text_of hO34 hl3
      have hcv4 := text_of hO4 hl4
      have C7 := Lib.hid (kept_any g A n c l w4 _ hT4 (hRw3.on hB4 hB4.size) (by omega))
      have C8 := Lib.hid (spoil_any A3 n3 c3 _ w4 _ hO34)
      generalize strOfNums (tTxt l) = S at *
      generalize tEnd l = te at *
      generalize tErr l = tr at *
      go_wp2_with fail
      refine C7.out.mono ?_
      rintro e w5 ⟨rfl, rfl⟩
      go_wp2_with fail
      refine C8.out.mono ?_
      rintro e w5 ⟨rfl, hG5⟩
      have hlt3 := hO34.lt
      have hB5 : Below wr.heap.size w4 w5 := (Below.refl _ _).grown hG5 hB34.size (fun k hk => (hlt3 k hk).1)
      have hT5 := hT4.below hB5 hT'.lt
      have hB6 := (hB'.trans (hB34.mono hB'.size)).trans (hB5.mono hB'.size)
      clear C7 C8 hcv3 hcv4 hG5
      go_wp2_with fail
      go_roundw
      case rel => exact ⟨j + 1, by omega, by go_num, hT5, hB6⟩
      case measure => simp [intOf]; omega
    · obtain rfl : j = 2 := by omega
      go_wp2_with fail
      go_ret
      exact ⟨rfl, hB'⟩

theorem walk_great (A : Option Addr) (n c : Nat) (l : List Int) (p k : Int) (w : World) (hn : 65536 < n) (hm : n ≤ 9223372036854775807) :
    Calls Try.prog 4 #[.slice A n c, .int .i64 p, .int .i64 k] w fun e w' => e = .returned (.bool true) ∧ Below w.heap.size w w' := by
  go_enter Try.func4, Try.ntmps4
  go_wp2_with fail
  refine (begun_any _).mono ?_
  rintro e w1 ⟨rfl, hB1⟩
  go_wp2_with fail
  go_ret
  exact ⟨rfl, hB1⟩

theorem walk (A : Option Addr) (n c : Nat) (l : List Int) (p k : Int) (w : World) (hR : Rd w w.heap.size A n l) (hY : Byt l) (hc : n ≤ c) (hm : c ≤ maxLen) (w1 : (Lit.int .i64 p).wf = true) (w2 : (Lit.int .i64 k).wf = true) :
    Calls Try.prog 4 #[.slice A n c, .int .i64 p, .int .i64 k] w fun e w' => e = .returned (.bool true) ∧ Below w.heap.size w w' := by
  have b1 : -9223372036854775808 ≤ p ∧ p ≤ 9223372036854775807 := by simpa [Lit.wf, IntKind.min, IntKind.max, IntKind.signed, IntKind.bits] using w1
  unfold maxLen at hm
  by_cases hn : n ≤ 65536
  · exact walk_small A n c l p k w hR hY hc hn b1.2
  · exact walk_great A n c l p k w (by omega) (by omega)
end Go.Proofs.Ytdadhpghdblgnaa.reads
