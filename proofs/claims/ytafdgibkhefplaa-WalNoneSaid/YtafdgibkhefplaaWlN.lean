/- What the program's own log's methods answer on a nil log and on a zero one, and Open on a nil disk. Conditions: those that each theorem names. -/
import Derived.Test.YtafdgibkhefplaaWalI
import Derived.Test.YtafdgibkhefplaaDskNone
namespace Go.Proofs.Ytafdgibkhefplaa.wal
open Go.RowKit Go.Proofs.Ytafdgibkhefplaa.kit Go.Proofs.Ytafdgibkhefplaa.nums Go.Proofs.Ytafdgibkhefplaa.ds Go.Proofs.Ytafdgibkhefplaa.disk Go.Proofs.Ytafdgibkhefplaa.ws
set_option linter.unusedVariables false

/-- There is no log at q. -/
def NoWal (q : Option Addr) (w : World) : Prop := ∀ (A : Option Addr) (n c : Nat), Calls Try.prog 51 #[.pointer q, .slice A n c] w fun e w' => e = .returned (.int .i64 1) ∧ w = w'
theorem NoWal.nil (w : World) : NoWal none w := by
  intro A n c
  go_enter Try.func51, Try.ntmps51
  go_wp2_with fail
  go_ret
  exact ⟨rfl, rfl⟩
theorem NoWal.zero {p : Nat} {w : World} (h : w.cell? ⟨p, 0, none⟩ = some (.pointer none)) : NoWal (some ⟨p, 0, none⟩) w := by
  intro A n c
  go_enter Try.func51, Try.ntmps51
  go_wp2_with fail
  go_ret
  exact ⟨rfl, rfl⟩
section
variable {q : Option Addr} {w : World}
theorem noW_append (h : ∀ w', Below w.heap.size w w' → NoWal q w') (A : Option Addr) (n c : Nat) : Calls Try.prog 20 #[.pointer q, .slice A n c] w fun e w' => e = .returned (.int .i64 1) ∧ Below w.heap.size w w' := by
  have hB : Below w.heap.size w (w.alloc (.cells #[.slice A n c] 35)) := (Below.refl _ _).alloc (Nat.le_refl _) _
  have C := Lib.hid (h _ hB (some ⟨w.heap.size, 0, none⟩) 1 1)
  have HB := Lib.hid hB
  clear h hB
  go_enter Try.func20, Try.ntmps20
  go_wp2_with fail
  refine C.out.mono ?_
  rintro e w2 ⟨rfl, rfl⟩
  go_wp2_with fail
  go_ret
  exact ⟨rfl, HB.out⟩
theorem noW_rewrite (h : NoWal q w) (A : Option Addr) (n c : Nat) : Calls Try.prog 22 #[.pointer q, .slice A n c] w fun e w' => e = .returned (.int .i64 1) ∧ w = w' := by
  have C := Lib.hid (h A n c)
  clear h
  go_enter Try.func22, Try.ntmps22
  go_wp2_with fail
  refine C.out.mono ?_
  rintro e w2 ⟨rfl, rfl⟩
  go_wp2_with fail
  go_ret
  exact ⟨rfl, rfl⟩
theorem noW_sync (h : NoWal q w) : Calls Try.prog 21 #[.pointer q] w fun e w' => e = .returned (.int .i64 1) ∧ w = w' := by
  have C := Lib.hid (h none 0 0)
  clear h
  go_enter Try.func21, Try.ntmps21
  go_wp2_with fail
  refine C.out.mono ?_
  rintro e w2 ⟨rfl, rfl⟩
  go_wp2_with fail
  go_ret
  exact ⟨rfl, rfl⟩
theorem noW_count (h : NoWal q w) : Calls Try.prog 27 #[.pointer q] w fun e w' => e = .returned (.int .i64 0) ∧ w = w' := by
  have C := Lib.hid (h none 0 0)
  clear h
  go_enter Try.func27, Try.ntmps27
  go_wp2_with fail
  refine C.out.mono ?_
  rintro e w2 ⟨rfl, rfl⟩
  go_wp2_with fail
  go_ret
  exact ⟨rfl, rfl⟩
theorem noW_bytes (h : NoWal q w) : Calls Try.prog 28 #[.pointer q] w fun e w' => e = .returned (.int .i64 0) ∧ w = w' := by
  have C := Lib.hid (h none 0 0)
  clear h
  go_enter Try.func28, Try.ntmps28
  go_wp2_with fail
  refine C.out.mono ?_
  rintro e w2 ⟨rfl, rfl⟩
  go_wp2_with fail
  go_ret
  exact ⟨rfl, rfl⟩
end
theorem open_nil (w : World) : Calls Try.prog 16 #[.pointer none] w fun e w' => e = .returned (.tuple #[.pointer none, .slice none 0 0, .int .i64 1]) ∧ Below w.heap.size w w' := by
  have CL := Lib.hid (no_lives (NoDisk.nil w))
  have CR := Lib.hid (fun z => no_read (NoDisk.nil z) 0)
  have hB := Lib.hid (show Below w.heap.size w (w.alloc (.cells #[.pointer none, .int .i64 0, .bool false, .int .i64 1, .int .u64 0, .int .i64 0, .int .i64 0] 60)) from (Below.refl _ _).alloc (Nat.le_refl _) _)
  go_enter Try.func16, Try.ntmps16
  go_wp2_with fail
  refine CL.out.mono ?_
  rintro e w2 ⟨rfl, rfl⟩
  go_wp2_with fail
  refine wp_loop_rounds 3 ?_
  rw [rounds_succ]
  go_wp2_with fail
  refine (CR.out _).mono ?_
  rintro e w2 ⟨rfl, rfl⟩
  go_wp2_with fail
  go_ret3
  exact ⟨rfl, hB.out⟩
end Go.Proofs.Ytafdgibkhefplaa.wal
