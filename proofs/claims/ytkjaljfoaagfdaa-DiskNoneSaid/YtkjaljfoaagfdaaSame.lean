/- Both disks say the same; operations that are not too great. Conditions: the disks are good ones; what the slices read as. -/
import Derived.Test.YtkjaljfoaagfdaaDo
namespace Go.Proofs.Ytkjaljfoaagfdaa.both
open Go.RowKit Go.Proofs.Ytkjaljfoaagfdaa.kit Go.Proofs.Ytkjaljfoaagfdaa.nums Go.Proofs.Ytkjaljfoaagfdaa.ds Go.Proofs.Ytkjaljfoaagfdaa.disk Go.Proofs.Ytkjaljfoaagfdaa.ref4 Go.Proofs.Ytkjaljfoaagfdaa.bytes Go.Proofs.Ytkjaljfoaagfdaa.law0
set_option linter.unusedVariables false

theorem str_of_own {A : Option Addr} {n c : Nat} {l : List Int} {w : World} {base : Nat} (hO : Own 5 w base (.slice A n c) l) (hn : l.length = n) :
    (convert 30 9 (.slice A n c)).run Try.prog w = .ok (.string (strOfNums l)) w :=
  run_string_rd w 30 5 9 Try.underlying30 Try.underlying5 Try.underlying9 w.heap.size A n c l (hO.rd hn)
set_option maxHeartbeats 1000000 in
theorem same_any (B a g : Nat) (S : DS) (fp : Nat → Prop) (w : World) (h : Both w B a g S fp) (hs : S.stepped ≤ 1000000) (hp : S.powers ≤ 1000000) :
    Calls Try.prog 14 #[.pointer (some ⟨a, 0, none⟩), .pointer (some ⟨g, 0, none⟩)] w fun e w' => e = .returned (.bool true) ∧ Below w.heap.size w w' := by
  have c4 := h.r.c4
  have c6 := h.r.c6
  have c7 := h.r.c7
  have D1 := (show ∀ q, Calls Try.prog 25 #[.pointer (some ⟨a, 0, none⟩)] (w.drewN q) (fun e w' => e = .returned (.bool S.off) ∧ ∃ n, w' = w.drewN n) from fun q => (dead_any a S fp (w.drewN q) (h.d.keep (fun _ _ => rfl)) h.good hs hp).mono (fun e w' ⟨h1, n, h2⟩ => ⟨h1, q + n, by rw [h2, World.drewN_drewN]⟩))
  have D2 := Lib.hid (show ∀ q, Calls Try.prog 26 #[.pointer (some ⟨a, 0, none⟩)] (w.drewN q) (fun e w' => e = .returned (.int .i64 S.powers) ∧ ∃ n, w' = w.drewN n) from fun q => (lives_any a S fp (w.drewN q) (h.d.keep (fun _ _ => rfl)) h.good hs hp).mono (fun e w' ⟨h1, n, h2⟩ => ⟨h1, q + n, by rw [h2, World.drewN_drewN]⟩))
  have D3 := Lib.hid (show ∀ q, Calls Try.prog 27 #[.pointer (some ⟨a, 0, none⟩)] (w.drewN q) (fun e w' => e = .returned (.int .i64 S.stepped) ∧ ∃ n, w' = w.drewN n) from fun q => (steps_any a S fp (w.drewN q) (h.d.keep (fun _ _ => rfl)) h.good hs hp).mono (fun e w' ⟨h1, n, h2⟩ => ⟨h1, q + n, by rw [h2, World.drewN_drewN]⟩))
  have HB := Lib.hid h
  go_enter Try.func14, Try.ntmps14
  go_upto_region 1 with (fail)
  obtain ⟨o, ho⟩ : ∃ o, S.off = o := ⟨_, rfl⟩
  rw [ho] at c4 D1
  have HO := Lib.hid ho
  have D1' := Lib.hid D1
  clear ho D1 h
  cases o
  all_goals
    go_quiet (first | exact D1'.out _ | exact D2.out _ | exact D3.out _)
    go_wp2_with fail
    go_loopw [5] (fun i wr => ∃ j : Nat, j ≤ 2 ∧ i = .int .i64 j ∧ Below w.heap.size w wr) (fun i _ => 2 - (intOf i).toNat)
    case atStart => exact ⟨0, by omega, rfl, below_drewN (Below.refl _ _) _⟩
    case round =>
      obtain ⟨j, hj, rfl, hB⟩ := hrel
      by_cases hlt : j < 2
      · have hb := HB.out.below hB
        have C1 := Lib.hid (disk.read_any a S fp wr hb.d hb.good hs hp j)
        go_wp2_with fail
        refine C1.out.mono ?_
        clear C1
        rintro e y1 ⟨A1, n1, k1, rfl, hl1, hO1, hY1⟩
        have C2 := Lib.hid (ref4.read_any g S j y1 (hb.below hY1).r)
        have hs1 := str_of_own hO1 hl1
        go_wp2_with fail
        refine C2.out.mono ?_
        clear C2
        rintro e y2 ⟨rfl, rfl⟩
        generalize strOfNums (S.readL j) = T at *
        generalize S.may j = me at *
        go_wp2_with fail
        go_roundw
        case rel => exact ⟨j + 1, by omega, by go_num, hB.trans (hY1.mono hB.size)⟩
        case measure => simp [intOf]; omega
      · obtain rfl : j = 2 := by omega
        go_wp2_with fail
        go_ret
        exact ⟨rfl, hB⟩
end Go.Proofs.Ytkjaljfoaagfdaa.both
