/- What the disk's functions tell of a pointer behind which there is no disk (nil, or a zero Disk). Condition: the program's own 'none' tells true of it. -/
import Derived.Test.YtkjaljfoaagfdaaDsk
namespace Go.Proofs.Ytkjaljfoaagfdaa.disk
open Go.RowKit Go.Proofs.Ytkjaljfoaagfdaa.kit Go.Proofs.Ytkjaljfoaagfdaa.nums Go.Proofs.Ytkjaljfoaagfdaa.ds Go.Proofs.Ytkjaljfoaagfdaa.map2
set_option linter.unusedVariables false
/-- Behind q there is no disk. -/
def NoDisk (q : Option Addr) (w : World) : Prop := Calls Try.prog 35 #[.pointer q] w fun e w' => e = .returned (.bool true) ∧ w = w'
theorem NoDisk.nil (w : World) : NoDisk none w := none_nil w
theorem NoDisk.zero {a : Nat} {w : World} (h : w.cell? ⟨a, 0, none⟩ = some (.map none)) : NoDisk (some ⟨a, 0, none⟩) w := none_zero a w h
section
variable {q : Option Addr} {w : World}
theorem no_check (h : NoDisk q w) (f : Int) : Calls Try.prog 39 #[.pointer q, .int .i64 f] w fun e w' => e = .returned (.int .i64 1) ∧ w = w' := by
  have C := Lib.hid (h)
  clear h
  unfold NoDisk at C
  go_enter Try.func39, Try.ntmps39
  go_wp2_with fail
  refine C.out.mono ?_
  rintro e w1 ⟨rfl, rfl⟩
  go_wp2_with fail
  go_ret
  exact ⟨rfl, rfl⟩
theorem no_step (h : NoDisk q w) (f n : Int) : Calls Try.prog 38 #[.pointer q, .int .i64 f, .int .i64 n] w fun e w' => e = .returned (.int .i64 1) ∧ w = w' := by
  have C := Lib.hid (no_check h f)
  clear h
  go_enter Try.func38, Try.ntmps38
  go_wp2_with fail
  refine C.out.mono ?_
  rintro e w1 ⟨rfl, rfl⟩
  go_wp2_with fail
  go_ret
  exact ⟨rfl, rfl⟩
theorem no_append (h : NoDisk q w) (f : Int) (A : Option Addr) (n c : Nat) : Calls Try.prog 18 #[.pointer q, .int .i64 f, .slice A n c] w fun e w' => e = .returned (.int .i64 1) ∧ w = w' := by
  have C := Lib.hid (no_step h f n)
  clear h
  go_enter Try.func18, Try.ntmps18
  go_wp2_with fail
  refine C.out.mono ?_
  rintro e w1 ⟨rfl, rfl⟩
  go_wp2_with fail
  go_ret
  exact ⟨rfl, rfl⟩
theorem no_sync (h : NoDisk q w) (f : Int) : Calls Try.prog 19 #[.pointer q, .int .i64 f] w fun e w' => e = .returned (.int .i64 1) ∧ w = w' := by
  have C := Lib.hid (no_step h f 0)
  clear h
  go_enter Try.func19, Try.ntmps19
  go_wp2_with fail
  refine C.out.mono ?_
  rintro e w1 ⟨rfl, rfl⟩
  go_wp2_with fail
  go_ret
  exact ⟨rfl, rfl⟩
theorem no_clear (h : NoDisk q w) (f : Int) : Calls Try.prog 20 #[.pointer q, .int .i64 f] w fun e w' => e = .returned (.int .i64 1) ∧ w = w' := by
  have C := Lib.hid (no_step h f 0)
  clear h
  go_enter Try.func20, Try.ntmps20
  go_wp2_with fail
  refine C.out.mono ?_
  rintro e w1 ⟨rfl, rfl⟩
  go_wp2_with fail
  go_ret
  exact ⟨rfl, rfl⟩
theorem no_read (h : NoDisk q w) (f : Int) : Calls Try.prog 22 #[.pointer q, .int .i64 f] w fun e w' => e = .returned (.tuple #[.slice none 0 0, .int .i64 1]) ∧ w = w' := by
  have C := Lib.hid (no_check h f)
  clear h
  go_enter Try.func22, Try.ntmps22
  go_wp2_with fail
  refine C.out.mono ?_
  rintro e w1 ⟨rfl, rfl⟩
  go_wp2_with fail
  go_ret2
  exact ⟨rfl, rfl⟩
theorem no_arm (h : NoDisk q w) (n : Int) : Calls Try.prog 21 #[.pointer q, .int .i64 n] w fun e w' => e = .returned (.tuple #[]) ∧ w = w' := by
  have C := Lib.hid (h)
  clear h
  unfold NoDisk at C
  go_enter Try.func21, Try.ntmps21
  go_wp2_with fail
  refine C.out.mono ?_
  rintro e w1 ⟨rfl, rfl⟩
  go_wp2_with fail
  go_end0
  exact ⟨rfl, rfl⟩
theorem no_power (h : NoDisk q w) (A : Option Addr) (n c : Nat) : Calls Try.prog 15 #[.pointer q, .slice A n c] w fun e w' => e = .returned (.tuple #[]) ∧ w = w' := by
  have C := Lib.hid (h)
  clear h
  unfold NoDisk at C
  go_enter Try.func15, Try.ntmps15
  go_wp2_with fail
  refine C.out.mono ?_
  rintro e w1 ⟨rfl, rfl⟩
  go_wp2_with fail
  refine bodyPost_ret (v := .tuple #[]) (by simp [results, Try.results15, go_sem]) rfl ?_
  exact ⟨rfl, rfl⟩
theorem no_dead (h : NoDisk q w) : Calls Try.prog 25 #[.pointer q] w fun e w' => e = .returned (.bool true) ∧ w = w' := by
  have C := Lib.hid (h)
  clear h
  unfold NoDisk at C
  go_enter Try.func25, Try.ntmps25
  go_wp2_with fail
  refine C.out.mono ?_
  rintro e w1 ⟨rfl, rfl⟩
  go_wp2_with fail
  go_ret
  exact ⟨rfl, rfl⟩
theorem no_lives (h : NoDisk q w) : Calls Try.prog 26 #[.pointer q] w fun e w' => e = .returned (.int .i64 0) ∧ w = w' := by
  have C := Lib.hid (h)
  clear h
  unfold NoDisk at C
  go_enter Try.func26, Try.ntmps26
  go_wp2_with fail
  refine C.out.mono ?_
  rintro e w1 ⟨rfl, rfl⟩
  go_wp2_with fail
  go_ret
  exact ⟨rfl, rfl⟩
theorem no_steps (h : NoDisk q w) : Calls Try.prog 27 #[.pointer q] w fun e w' => e = .returned (.int .i64 0) ∧ w = w' := by
  have C := Lib.hid (h)
  clear h
  unfold NoDisk at C
  go_enter Try.func27, Try.ntmps27
  go_wp2_with fail
  refine C.out.mono ?_
  rintro e w1 ⟨rfl, rfl⟩
  go_wp2_with fail
  go_ret
  exact ⟨rfl, rfl⟩
theorem no_copy (h : NoDisk q w) : Calls Try.prog 23 #[.pointer q] w fun e w' => e = .returned (.pointer none) ∧ w = w' := by
  have C := Lib.hid (h)
  clear h
  unfold NoDisk at C
  go_enter Try.func23, Try.ntmps23
  go_wp2_with fail
  refine C.out.mono ?_
  rintro e w1 ⟨rfl, rfl⟩
  go_wp2_with fail
  go_ret
  exact ⟨rfl, rfl⟩
end
end Go.Proofs.Ytkjaljfoaagfdaa.disk
