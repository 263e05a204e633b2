/- What the disk's functions tell of a pointer behind which there is no disk (nil, or a zero Disk). Condition: the program's own 'none' tells true of it. -/
import Derived.Test.YtafdgibkhefplaaDsk
namespace Go.Proofs.Ytafdgibkhefplaa.disk
open Go.RowKit Go.Proofs.Ytafdgibkhefplaa.kit Go.Proofs.Ytafdgibkhefplaa.nums Go.Proofs.Ytafdgibkhefplaa.ds Go.Proofs.Ytafdgibkhefplaa.map2
set_option linter.unusedVariables false
/-- Behind q there is no disk. -/
def NoDisk (q : Option Addr) (w : World) : Prop := Calls Try.prog 50 #[.pointer q] w fun e w' => e = .returned (.bool true) ∧ w = w'
theorem NoDisk.nil (w : World) : NoDisk none w := none_nil w
theorem NoDisk.zero {a : Nat} {w : World} (h : w.cell? ⟨a, 0, none⟩ = some (.map none)) : NoDisk (some ⟨a, 0, none⟩) w := none_zero a w h
section
variable {q : Option Addr} {w : World}
theorem no_check (h : NoDisk q w) (f : Int) : Calls Try.prog 70 #[.pointer q, .int .i64 f] w fun e w' => e = .returned (.int .i64 1) ∧ w = w' := by
  have C := Lib.hid (h)
  clear h
  unfold NoDisk at C
  go_enter Try.func70, Try.ntmps70
  go_wp2_with fail
  refine C.out.mono ?_
  rintro e w1 ⟨rfl, rfl⟩
  go_wp2_with fail
  go_ret
  exact ⟨rfl, rfl⟩
theorem no_step (h : NoDisk q w) (f n : Int) : Calls Try.prog 58 #[.pointer q, .int .i64 f, .int .i64 n] w fun e w' => e = .returned (.int .i64 1) ∧ w = w' := by
  have C := Lib.hid (no_check h f)
  clear h
  go_enter Try.func58, Try.ntmps58
  go_wp2_with fail
  refine C.out.mono ?_
  rintro e w1 ⟨rfl, rfl⟩
  go_wp2_with fail
  go_ret
  exact ⟨rfl, rfl⟩
theorem no_append (h : NoDisk q w) (f : Int) (A : Option Addr) (n c : Nat) : Calls Try.prog 31 #[.pointer q, .int .i64 f, .slice A n c] w fun e w' => e = .returned (.int .i64 1) ∧ w = w' := by
  have C := Lib.hid (no_step h f n)
  clear h
  go_enter Try.func31, Try.ntmps31
  go_wp2_with fail
  refine C.out.mono ?_
  rintro e w1 ⟨rfl, rfl⟩
  go_wp2_with fail
  go_ret
  exact ⟨rfl, rfl⟩
theorem no_sync (h : NoDisk q w) (f : Int) : Calls Try.prog 29 #[.pointer q, .int .i64 f] w fun e w' => e = .returned (.int .i64 1) ∧ w = w' := by
  have C := Lib.hid (no_step h f 0)
  clear h
  go_enter Try.func29, Try.ntmps29
  go_wp2_with fail
  refine C.out.mono ?_
  rintro e w1 ⟨rfl, rfl⟩
  go_wp2_with fail
  go_ret
  exact ⟨rfl, rfl⟩
theorem no_clear (h : NoDisk q w) (f : Int) : Calls Try.prog 55 #[.pointer q, .int .i64 f] w fun e w' => e = .returned (.int .i64 1) ∧ w = w' := by
  have C := Lib.hid (no_step h f 0)
  clear h
  go_enter Try.func55, Try.ntmps55
  go_wp2_with fail
  refine C.out.mono ?_
  rintro e w1 ⟨rfl, rfl⟩
  go_wp2_with fail
  go_ret
  exact ⟨rfl, rfl⟩
theorem no_read (h : NoDisk q w) (f : Int) : Calls Try.prog 45 #[.pointer q, .int .i64 f] w fun e w' => e = .returned (.tuple #[.slice none 0 0, .int .i64 1]) ∧ w = w' := by
  have C := Lib.hid (no_check h f)
  clear h
  go_enter Try.func45, Try.ntmps45
  go_wp2_with fail
  refine C.out.mono ?_
  rintro e w1 ⟨rfl, rfl⟩
  go_wp2_with fail
  go_ret2
  exact ⟨rfl, rfl⟩
theorem no_arm (h : NoDisk q w) (n : Int) : Calls Try.prog 17 #[.pointer q, .int .i64 n] w fun e w' => e = .returned (.tuple #[]) ∧ w = w' := by
  have C := Lib.hid (h)
  clear h
  unfold NoDisk at C
  go_enter Try.func17, Try.ntmps17
  go_wp2_with fail
  refine C.out.mono ?_
  rintro e w1 ⟨rfl, rfl⟩
  go_wp2_with fail
  go_end0
  exact ⟨rfl, rfl⟩
theorem no_power (h : NoDisk q w) (A : Option Addr) (n c : Nat) : Calls Try.prog 24 #[.pointer q, .slice A n c] w fun e w' => e = .returned (.tuple #[]) ∧ w = w' := by
  have C := Lib.hid (h)
  clear h
  unfold NoDisk at C
  go_enter Try.func24, Try.ntmps24
  go_wp2_with fail
  refine C.out.mono ?_
  rintro e w1 ⟨rfl, rfl⟩
  go_wp2_with fail
  refine bodyPost_ret (v := .tuple #[]) (by simp [results, Try.results24, go_sem]) rfl ?_
  exact ⟨rfl, rfl⟩
theorem no_dead (h : NoDisk q w) : Calls Try.prog 19 #[.pointer q] w fun e w' => e = .returned (.bool true) ∧ w = w' := by
  have C := Lib.hid (h)
  clear h
  unfold NoDisk at C
  go_enter Try.func19, Try.ntmps19
  go_wp2_with fail
  refine C.out.mono ?_
  rintro e w1 ⟨rfl, rfl⟩
  go_wp2_with fail
  go_ret
  exact ⟨rfl, rfl⟩
theorem no_lives (h : NoDisk q w) : Calls Try.prog 48 #[.pointer q] w fun e w' => e = .returned (.int .i64 0) ∧ w = w' := by
  have C := Lib.hid (h)
  clear h
  unfold NoDisk at C
  go_enter Try.func48, Try.ntmps48
  go_wp2_with fail
  refine C.out.mono ?_
  rintro e w1 ⟨rfl, rfl⟩
  go_wp2_with fail
  go_ret
  exact ⟨rfl, rfl⟩
end
end Go.Proofs.Ytafdgibkhefplaa.disk
