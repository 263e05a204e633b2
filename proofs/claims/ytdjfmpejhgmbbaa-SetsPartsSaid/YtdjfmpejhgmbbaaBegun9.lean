/- Sets does something (antipodelaw9.begun). -/
import Derived.Test.YtdjfmpejhgmbbaaNext9
namespace Go.Proofs.Ytdjfmpejhgmbbaa.law9
open Go Go.RowKit Go.Proofs.Ytdjfmpejhgmbbaa.kit Go.Proofs.Ytdjfmpejhgmbbaa.nums Go.Proofs.Ytdjfmpejhgmbbaa.se Go.Proofs.Ytdjfmpejhgmbbaa.ref9 Go.Proofs.Ytdjfmpejhgmbbaa.seti
set_option linter.unusedVariables false

/-- What holds behind i calls of a new counter at p. -/
def CountI (w : World) (p : Nat) (s : Nat) (stop : Int) (all : Nat) (i : Nat) (wr : World) : Prop :=
  i ≤ (subL s).length ∧ (∃ last : Int, Blk 38 wr p (cellsN i last stop all) ∧ (∀ x, (subL s)[i]? = some x → last < (x : Int))) ∧ Below p w wr
theorem subL_le (s : Nat) : (subL s).length ≤ 512 := by
  rw [subL_len]
  exact Nat.pow_le_pow_right (n := 2) (by omega) (list_len s)
/-- A new counter told of the subsets of s. -/
theorem count_told (s p : Nat) (stop : Int) (w wq : World) (hs : s < 65536) (hk : Blk 38 wq p (cellsN 0 (-1) stop (s &&& 1022))) (hB : Below p w wq) :
    Calls Try.prog 20 #[.int .u16 (s : Int), .func (.func 21) #[.pointer (some ⟨p, 0, none⟩)] #[]] wq fun e w' => e = .returned (.tuple #[]) ∧ ∃ (m : Nat) (last : Int), ToldN (fun i => decide (((i : Nat) : Int) + 1 ≠ stop)) (subL s).length m ∧ Blk 38 w' p (cellsN m last stop (s &&& 1022)) ∧ Below p w w' := by
  refine (subsets_any s _ _ (fun i => decide (((i : Nat) : Int) + 1 ≠ stop)) (CountI w p s stop (s &&& 1022)) wq hs (fun _ _ => rfl) ?_ ?_ ?_).mono ?_
  · rintro i w1 w2 ⟨h1, ⟨last, h2, h3⟩, h4⟩ hb
    exact ⟨h1, ⟨last, h2.below hb h2.lt, h3⟩, h4.trans (hb.mono (Nat.le_of_lt h2.lt))⟩
  · rintro i x w1 hx ⟨h1, ⟨last, h2, h3⟩, h4⟩
    have hm := subL_mem (List.mem_of_getElem? hx)
    have hi := (List.getElem?_eq_some_iff.1 hx).1
    have hle := subL_le s
    refine (next_any p i last stop (s &&& 1022) x w1 h2 (Nat.lt_of_le_of_lt Nat.and_le_left hs) hm.2 (h3 x hx) (by omega) (by omega)).mono ?_
    rintro e w2 ⟨rfl, k2, b2⟩
    refine ⟨rfl, by omega, ⟨x, by simpa using k2, ?_⟩, h4.trans b2⟩
    intro y hy
    have := subL_next hx hy
    omega
  · exact ⟨Nat.zero_le _, ⟨-1, hk, fun x _ => by omega⟩, hB⟩
  · rintro e w2 ⟨rfl, m, ⟨h1, ⟨last, h2, _⟩, h4⟩, h5⟩
    exact ⟨rfl, m, last, h5, h2, h4⟩
/-- How many are told, in numbers. -/
theorem told_num {stop : Int} {k m : Nat} (h : ToldN (fun i => decide (((i : Nat) : Int) + 1 ≠ stop)) k m) (hk : 1 ≤ k) : (m : Int) = if 1 ≤ stop ∧ stop ≤ k then stop else (k : Int) := by
  obtain ⟨h1, h2, h3⟩ := h
  simp only [decide_eq_true_eq, decide_eq_false_iff_not, Decidable.not_not, ne_eq] at h2 h3
  split
  · rename_i hs
    rcases h3 with rfl | ⟨i, rfl, hi⟩
    · by_cases e : stop = m
      · exact e.symm
      · exact absurd (show ((((stop - 1).toNat : Nat)) : Int) + 1 = stop by omega) (h2 (stop - 1).toNat (by omega))
    · omega
  · rcases h3 with rfl | ⟨i, rfl, hi⟩
    · rfl
    · omega
theorem rdv_two (w : World) (E : TypeId) (y z : Value) : RdV (w.alloc (.cells #[y, z] E)) (w.alloc (.cells #[y, z] E)).heap.size (some ⟨w.heap.size, 0, none⟩) 2 [y, z] := by
  have hb : Blk E (w.alloc (.cells #[y, z] E)) w.heap.size [y, z] := heap_alloc_new w _
  refine ⟨rfl, fun _ => ⟨_, 0, rfl, hb.lt, fun j hj => ?_⟩⟩
  rw [hb.cell, Nat.zero_add]
set_option maxHeartbeats 1000000 in
theorem begun_any (w : World) : Calls Try.prog 6 #[] w fun e w' => e = .returned (.bool true) ∧ Below w.heap.size w w' := by
  have hmf : ∀ (fn : Fn) (first cap : Array Value) (w : World), (Instr.makeFunc fn first cap).run Try.prog w = .ok (.func fn first cap) w := fun _ _ _ _ => rfl
  have h1 := (Below.refl w.heap.size w).alloc (Nat.le_refl _) (.cells #[.int .i64 3, .int .i64 1] 3)
  have C1 := Lib.hid (seti.of_any _ 2 2 [3, 1] _ _ (rdv_two w 3 (.int .i64 3) (.int .i64 1)) (by intro n hn; simp at hn; omega) (by omega))
  rw [show ofF 0 [3, 1] = some 10 from rfl] at C1
  unfold ofV at C1
  go_enter Try.func6, Try.ntmps6
  go_wp2_with fail
  refine C1.out.mono ?_
  rintro e w2 ⟨rfl, hB2⟩
  have hB := h1.trans (hB2.mono h1.size)
  clear hB2 h1 C1
  have kc : Blk 38 (w2.alloc (.cells #[.int .i64 0, .int .i64 (-1), .int .i64 (-1), .bool true, .int .u16 10] 38)) w2.heap.size (cellsN 0 (-1) (-1) 10) := heap_alloc_new w2 _
  have C2 := Lib.hid (count_told 10 w2.heap.size (-1) w2 _ (by omega) kc ((Below.refl _ _).alloc (Nat.le_refl _) _))
  go_wp2_with (rw [hmf])
  refine C2.out.mono ?_
  rintro e w3 ⟨rfl, m, last, ht, k3, hB3⟩
  have hm := told_num ht (by rw [subL_ten]; decide)
  obtain rfl : m = 4 := by
    rw [subL_ten] at hm
    simp at hm
    omega
  have hB13 := hB.trans (hB3.mono hB.size)
  clear hB3 hm ht C2 kc hB
  have CN := Lib.hid (fun w => seti.count_any 10 w (by omega))
  have CH := Lib.hid (fun w => seti.has_any 10 3 w (by omega) (by omega) (by omega))
  rw [show ((listF 10).length : Int) = 2 from by decide] at CN
  rw [show hasF 10 3 = true from by decide] at CH
  go_wp2_with fail
  refine (CN.out _).mono ?_
  rintro e w4 ⟨rfl, hB4⟩
  have k4 := k3.below hB4 k3.lt
  have hB14 := hB13.trans (hB4.mono hB13.size)
  clear k3 hB13 hB4
  go_wp2_with fail
  refine (CH.out _).mono ?_
  rintro e w5 ⟨rfl, hB5⟩
  have k5 := k4.below hB5 k4.lt
  have hB15 := hB14.trans (hB5.mono hB14.size)
  clear k4 hB14 hB5
  have c0 := k5.cell 0
  simp only [cellsN, List.getElem?_cons_zero] at c0
  go_wp2_with fail
  go_ret
  exact ⟨rfl, hB15⟩
end Go.Proofs.Ytdjfmpejhgmbbaa.law9
