/- What the statements' counter of subsets comes to (antipodelaw9). Conditions: the counter lies in a block of its own. -/
import Derived.Test.YtdjfmpejhgmbbaaSetsI
import Derived.Deep.Cut
import Derived.Deep.DeepCutAuto
import Derived.Deep.RegionWith
import Derived.Deep.QuietTactic
import Derived.BigQuiet
namespace Go.Proofs.Ytdjfmpejhgmbbaa.law9
open Go Go.RowKit Go.Proofs.Ytdjfmpejhgmbbaa.kit Go.Proofs.Ytdjfmpejhgmbbaa.nums Go.Proofs.Ytdjfmpejhgmbbaa.se Go.Proofs.Ytdjfmpejhgmbbaa.ref9 Go.Proofs.Ytdjfmpejhgmbbaa.seti
set_option linter.unusedVariables false

/-- The counter's cells. -/
def cellsN (n last stop : Int) (all : Nat) : List Value := [.int .i64 n, .int .i64 last, .int .i64 stop, .bool true, .int .u16 (all : Int)]
set_option maxHeartbeats 1000000 in
theorem next_any (p : Nat) (n last stop : Int) (all x : Nat) (w : World) (hk : Blk 38 w p (cellsN n last stop all)) (ha : all < 65536) (hx : x &&& all = x) (hl : last < x)
    (h0 : 0 ≤ n) (h1 : n ≤ 100000) :
    Calls Try.prog 21 #[.pointer (some ⟨p, 0, none⟩), .int .u16 (x : Int)] w fun e w' => e = .returned (.bool (decide (n + 1 ≠ stop))) ∧ Blk 38 w' p (cellsN (n + 1) x stop all) ∧ Below p w w' := by
  have hx2 : x < 65536 := by rw [← hx]; exact Nat.lt_of_le_of_lt Nat.and_le_right ha
  have HX := bits_and_u16_nat x all hx2 ha
  rw [hx] at HX
  have c0 := hk.cell 0
  have c1 := hk.cell 1
  have c2 := hk.cell 2
  have c3 := hk.cell 3
  have c4 := hk.cell 4
  have df := fun i => hk.frozen i
  simp only [cellsN, List.getElem?_cons_zero, List.getElem?_cons_succ] at c0 c1 c2 c3 c4
  have HK := Lib.hid hk
  go_enter Try.func21, Try.ntmps21
  go_wp2_with fail
  have k3 : Blk 38 (((w.setCell ⟨p, 3, none⟩ (.bool true)).setCell ⟨p, 0, none⟩ (.int .i64 (n + 1))).setCell ⟨p, 1, none⟩ (.int .i64 (x : Int))) p (cellsN (n + 1) x stop all) :=
    ((HK.out.set_ 3 (.bool true)).set_ 0 (.int .i64 (n + 1))).set_ 1 (.int .i64 (x : Int))
  have hB : Below p w (((w.setCell ⟨p, 3, none⟩ (.bool true)).setCell ⟨p, 0, none⟩ (.int .i64 (n + 1))).setCell ⟨p, 1, none⟩ (.int .i64 (x : Int))) :=
    (((Below.refl p w).setCell (p := ⟨p, 3, none⟩) (Nat.le_refl _) _).setCell (p := ⟨p, 0, none⟩) (Nat.le_refl _) _).setCell (p := ⟨p, 1, none⟩) (Nat.le_refl _) _
  generalize (((w.setCell ⟨p, 3, none⟩ (.bool true)).setCell ⟨p, 0, none⟩ (.int .i64 (n + 1))).setCell ⟨p, 1, none⟩ (.int .i64 (x : Int))) = z at *
  have d0 := k3.cell 0
  have d2 := k3.cell 2
  simp only [cellsN, List.getElem?_cons_zero, List.getElem?_cons_succ] at d0 d2
  clear c0 c1 c2 c3 c4 df
  go_quiet (fail)
  go_wp2_with fail
  go_ret
  exact ⟨ret_bool (by rw [Bool.eq_iff_iff]; simp), k3, below_drewN hB _⟩
end Go.Proofs.Ytdjfmpejhgmbbaa.law9
