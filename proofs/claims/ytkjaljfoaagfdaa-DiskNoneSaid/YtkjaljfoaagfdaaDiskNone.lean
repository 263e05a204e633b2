/- DiskNone's walk: it answers true in every world. No condition. -/
import Derived.Test.YtkjaljfoaagfdaaDskNone
import Derived.Test.YtkjaljfoaagfdaaBegunD
namespace Go.Proofs.Ytkjaljfoaagfdaa.both
open Go.RowKit Go.Proofs.Ytkjaljfoaagfdaa.kit Go.Proofs.Ytkjaljfoaagfdaa.nums Go.Proofs.Ytkjaljfoaagfdaa.ds Go.Proofs.Ytkjaljfoaagfdaa.disk
set_option linter.unusedVariables false
set_option maxRecDepth 100000 in
set_option maxHeartbeats 1000000 in
theorem none_walk (w : World) :
    Calls Try.prog 7 #[] w fun e w' => e = .returned (.bool true) ∧ Below w.heap.size w w' := by
  go_enter Try.func7, Try.ntmps7
  go_wp2_with fail
  have hb : Blk 49 (w.alloc (.cells #[.map none, .bool false, .int .i64 0, .int .i64 0, .int .i64 0] 49)) w.heap.size [.map none, .bool false, .int .i64 0, .int .i64 0, .int .i64 0] := (MapKept.heap_alloc _ _).1
  have hB := Lib.hid (show Below w.heap.size w (w.alloc (.cells #[.map none, .bool false, .int .i64 0, .int .i64 0, .int .i64 0] 49)) from (Below.refl _ _).alloc (Nat.le_refl _) _)
  generalize w.alloc (.cells #[.map none, .bool false, .int .i64 0, .int .i64 0, .int .i64 0] 49) = w2 at *
  have hz : w2.cell? ⟨w.heap.size, 0, none⟩ = some (.map none) := by rw [hb.cell]; rfl
  have hlt := hb.lt
  have HZ := Lib.hid (NoDisk.zero hz)
  have HZ2 := Lib.hid (show ∀ w3, Below w2.heap.size w2 w3 → NoDisk (some ⟨w.heap.size, 0, none⟩) w3 from fun w3 hB3 => NoDisk.zero ((hB3.cell (p := ⟨w.heap.size, 0, none⟩) hlt).trans hz))
  clear hb hz
  have Ca := Lib.hid (no_arm (NoDisk.nil w2) 1)
  have Cb := Lib.hid (no_power HZ.out none 0 0)
  have Cc := Lib.hid (no_read (NoDisk.nil w2) 0)
  have Cd := Lib.hid (begun_any w2)
  refine Ca.out.mono ?_
  rintro e w3 ⟨rfl, rfl⟩
  go_wp2_with fail
  refine Cb.out.mono ?_
  rintro e w3 ⟨rfl, rfl⟩
  go_wp2_with fail
  refine Cc.out.mono ?_
  rintro e w3 ⟨rfl, rfl⟩
  go_wp2_with fail
  refine Cd.out.mono ?_
  rintro e w3 ⟨rfl, hB3⟩
  have HZ3 := Lib.hid (HZ2.out w3 hB3)
  have HB3 := Lib.hid (hB.out.trans (hB3.mono (Nat.le_of_lt hlt)))
  clear HZ HZ2 hB3 hB hlt Ca Cb Cc Cd
  have E1 := Lib.hid (no_append (NoDisk.nil w3) 0 none 0 0)
  have E2 := Lib.hid (no_sync HZ3.out 0)
  have E3 := Lib.hid (no_clear HZ3.out 1)
  have E4 := Lib.hid (no_dead (NoDisk.nil w3))
  have E5 := Lib.hid (no_dead HZ3.out)
  have E6 := Lib.hid (no_lives (NoDisk.nil w3))
  have E7 := Lib.hid (no_lives HZ3.out)
  have E8 := Lib.hid (no_steps (NoDisk.nil w3))
  have E9 := Lib.hid (no_steps HZ3.out)
  have E10 := Lib.hid (no_copy (NoDisk.nil w3))
  have E11 := Lib.hid (no_copy HZ3.out)
  go_wp2_with fail
  refine E1.out.mono ?_
  rintro e w4 ⟨rfl, rfl⟩
  go_wp2_with fail
  refine E2.out.mono ?_
  rintro e w4 ⟨rfl, rfl⟩
  go_wp2_with fail
  refine E3.out.mono ?_
  rintro e w4 ⟨rfl, rfl⟩
  go_wp2_with fail
  refine E4.out.mono ?_
  rintro e w4 ⟨rfl, rfl⟩
  go_wp2_with fail
  refine E5.out.mono ?_
  rintro e w4 ⟨rfl, rfl⟩
  go_wp2_with fail
  refine E6.out.mono ?_
  rintro e w4 ⟨rfl, rfl⟩
  go_wp2_with fail
  refine E7.out.mono ?_
  rintro e w4 ⟨rfl, rfl⟩
  go_wp2_with fail
  refine E8.out.mono ?_
  rintro e w4 ⟨rfl, rfl⟩
  go_wp2_with fail
  refine E9.out.mono ?_
  rintro e w4 ⟨rfl, rfl⟩
  go_wp2_with fail
  refine E10.out.mono ?_
  rintro e w4 ⟨rfl, rfl⟩
  go_wp2_with fail
  refine E11.out.mono ?_
  rintro e w4 ⟨rfl, rfl⟩
  go_wp2_with fail
  go_ret
  exact ⟨rfl, HB3.out⟩
end Go.Proofs.Ytkjaljfoaagfdaa.both
