/- The statements' own first test of disk, begun, answers true, and writes nothing that was there. No condition. -/
import Derived.Test.YtkjaljfoaagfdaaAlone
import Derived.Lib.SmallJoins
namespace Go.Proofs.Ytkjaljfoaagfdaa.both
open Go.RowKit Go.Proofs.Ytkjaljfoaagfdaa.kit Go.Proofs.Ytkjaljfoaagfdaa.nums Go.Proofs.Ytkjaljfoaagfdaa.ds Go.Proofs.Ytkjaljfoaagfdaa.disk Go.Proofs.Ytkjaljfoaagfdaa.ref4 Go.Proofs.Ytkjaljfoaagfdaa.bytes Go.Proofs.Ytkjaljfoaagfdaa.law0
set_option linter.unusedVariables false

theorem rd_lit (w : World) (E : TypeId) (l : List Int) (n : Nat) (fr : Nat × Nat) (hn : l.length = n) : Rd (w.alloc (.cells (u8s l).toArray E fr)) (w.heap.size + 1) (some ⟨w.heap.size, 0, none⟩) n l := by
  refine ⟨hn, fun _ => ⟨_, 0, rfl, by omega, fun j hj => ?_⟩⟩
  rw [World.cell?_alloc_mark, Nat.zero_add, List.getElem?_toArray, u8s_getElem? l j (by omega)]
/-- What the operations of begun make. -/
theorem begun_S : DS.fresh.appE 0 [97, 98] = 0 ∧ (DS.fresh.appS 0 [97, 98]).syncE 0 = 0 ∧ ((((DS.fresh.appS 0 [97, 98]).syncS 0).appS 0 [99, 100]).powS [1]) = ⟨[97, 98, 99], [], 3, 0, false, -1, 1, 3⟩ := ⟨rfl, rfl, rfl⟩
theorem byt_ab : Byt [97, 98] ∧ Byt [99, 100] := ⟨by intro x hx; simp at hx; omega, by intro x hx; simp at hx; omega⟩
theorem str_abc : strOfNums [97, 98, 99] = ⟨#[97, 98, 99]⟩ := by decide

set_option maxHeartbeats 1000000 in
theorem begun_any (w : World) :
    Calls Try.prog 9 #[] w fun e w' => e = .returned (.bool true) ∧ Below w.heap.size w w' := by
  have kc := fun (w : World) (C : Array Value) (n c g : Nat) (hg : g = w.heap.size) => Joins.run_convert_bytes_const_at (P := Try.prog) w 30 5 C n c g hg Try.underlying30 Try.underlying5
  go_enter Try.func9, Try.ntmps9
  go_wp2_with fail
  refine (disk.new_any w).mono ?_
  rintro e w1 ⟨a, fp, rfl, hd, hf, hB1⟩
  go_wp2_with fail
  obtain ⟨E1, E2, E3⟩ := begun_S
  have hA : Alone w1 w.heap.size a DS.fresh fp := ⟨hd, hf, DS.Good.fresh⟩
  have hA1 := hA.below (w' := (w1.alloc (.cells #[.int .u8 97, .int .u8 98] 5 (2, 3)))) ((Below.refl _ _).alloc (Nat.le_refl _) _)
  have hB1a : Below w.heap.size w (w1.alloc (.cells #[.int .u8 97, .int .u8 98] 5 (2, 3))) := hB1.alloc hB1.size _
  have hR1 : Rd (w1.alloc (.cells #[.int .u8 97, .int .u8 98] 5 (2, 3))) (w1.heap.size + 1) (some ⟨w1.heap.size, 0, none⟩) 2 [97, 98] := rd_lit w1 5 [97, 98] 2 (2, 3) rfl
  have C1 := Lib.hid (disk.append_any a DS.fresh fp (w1.alloc (.cells #[.int .u8 97, .int .u8 98] 5 (2, 3))) hA1.d DS.Good.fresh (by decide) (by decide) 0 (some ⟨w1.heap.size, 0, none⟩) 2 2 [97, 98] (by simpa using hR1) byt_ab.1 (by omega) (by omega) (by unfold maxLen; omega) (fun _ b' o' e hfb => by
    simp only [Option.some.injEq, Addr.mk.injEq, and_true] at e
    have := hA.d.lt b' hfb
    omega))
  have G1 := DS.Good.fresh.app (f := 0) (by decide) byt_ab.1
  have N1 : (DS.fresh.appS 0 [97, 98]).stepped ≤ 1 ∧ (DS.fresh.appS 0 [97, 98]).powers ≤ 1 := DS.Near.app DS.fresh 0 [97, 98]
  rw [E1] at C1
  generalize DS.fresh.appS 0 [97, 98] = S1 at *
  refine C1.out.mono ?_
  clear C1
  rintro e w2 ⟨fp2, rfl, hd2, hc2⟩
  obtain ⟨hA2, hB2⟩ := hA1.turned hB1a.size hd2 hc2 G1
  have hB12 := hB1a.trans hB2
  have C2 := Lib.hid (disk.sync_any a S1 fp2 w2 hA2.d G1 (by omega) (by omega) 0)
  have G2 := G1.sync (f := 0) (by omega)
  have N2 : (S1.syncS 0).stepped ≤ S1.stepped + 1 ∧ (S1.syncS 0).powers ≤ S1.powers + 1 := DS.Near.sync S1 0
  rw [E2] at C2
  generalize S1.syncS 0 = S2 at *
  go_wp2_with fail
  refine C2.out.mono ?_
  clear C2
  rintro e w3 ⟨fp3, rfl, hd3, hc3⟩
  obtain ⟨hA3, hB3⟩ := hA2.turned hB12.size hd3 hc3 G2
  have hB13 := hB12.trans hB3
  have hA3a := hA3.below (w' := (w3.alloc (.cells #[.int .u8 99, .int .u8 100] 5 (2, 3)))) ((Below.refl _ _).alloc (Nat.le_refl _) _)
  have hB13a : Below w.heap.size w (w3.alloc (.cells #[.int .u8 99, .int .u8 100] 5 (2, 3))) := hB13.alloc hB13.size _
  have hR3 : Rd (w3.alloc (.cells #[.int .u8 99, .int .u8 100] 5 (2, 3))) (w3.heap.size + 1) (some ⟨w3.heap.size, 0, none⟩) 2 [99, 100] := rd_lit w3 5 [99, 100] 2 (2, 3) rfl
  have C3 := Lib.hid (disk.append_any a S2 fp3 (w3.alloc (.cells #[.int .u8 99, .int .u8 100] 5 (2, 3))) hA3a.d G2 (by omega) (by omega) 0 (some ⟨w3.heap.size, 0, none⟩) 2 2 [99, 100] (by simpa using hR3) byt_ab.2 (by omega) (by omega) (by unfold maxLen; omega) (fun _ b' o' e hfb => by
    simp only [Option.some.injEq, Addr.mk.injEq, and_true] at e
    have := hA3.d.lt b' hfb
    omega))
  have G3 := G2.app (f := 0) (by omega) byt_ab.2
  have N3 : (S2.appS 0 [99, 100]).stepped ≤ S2.stepped + 1 ∧ (S2.appS 0 [99, 100]).powers ≤ S2.powers + 1 := DS.Near.app S2 0 [99, 100]
  generalize S2.appS 0 [99, 100] = S3 at *
  generalize S2.appE 0 [99, 100] = e3 at *
  go_wp2_with fail
  refine C3.out.mono ?_
  clear C3
  rintro e w4 ⟨fp4, rfl, hd4, hc4⟩
  obtain ⟨hA4, hB4⟩ := hA3a.turned hB13a.size hd4 hc4 G3
  have hB14 := hB13a.trans hB4
  have hA4a := hA4.below (w' := (w4.alloc (.cells #[.int .i64 1] 3))) ((Below.refl _ _).alloc (Nat.le_refl _) _)
  have hB14a : Below w.heap.size w (w4.alloc (.cells #[.int .i64 1] 3)) := hB14.alloc hB14.size _
  have hZ : RdV (w4.alloc (.cells #[.int .i64 1] 3)) (w4.alloc (.cells #[.int .i64 1] 3)).heap.size (some ⟨w4.heap.size, 0, none⟩) 1 ([(1 : Int)].map (Value.int .i64)) := by simpa using RdV.one w4 3 (.int .i64 1)
  have C4 := Lib.hid (disk.power_any a S3 fp4 (w4.alloc (.cells #[.int .i64 1] 3)) hA4a.d G3 (by omega) (by omega) (some ⟨w4.heap.size, 0, none⟩) 1 1 [1] hZ (by intro z hz; simp at hz; omega) (fun _ b' o' e hfb => by
    simp only [Option.some.injEq, Addr.mk.injEq, and_true] at e
    have := hA4.d.lt b' hfb
    omega) (by omega))
  have G4 := G3.pow (by omega) [1]
  rw [E3] at C4 G4
  clear hA hA1 hB1 hB1a hR1 hA2 hB2 hB12 hA3 hB3 hB13 hA3a hB13a hR3 hB4 hZ hd hf hd2 hc2 hd3 hc3 hd4 hc4 G1 G2 G3 N1 N2 N3 E1 E2 E3
  go_wp2_with fail
  refine C4.out.mono ?_
  clear C4
  rintro e w5 ⟨fp5, rfl, hd5, hc5⟩
  obtain ⟨hA5, hB5⟩ := hA4a.turned hB14a.size hd5 hc5 G4
  have hB15 := hB14a.trans hB5
  have C5 := Lib.hid (disk.read_any a _ fp5 w5 hA5.d G4 (show (3 : Nat) ≤ 1000000 by decide) (show (1 : Nat) ≤ 1000000 by decide) 0)
  go_wp2_with fail
  refine C5.out.mono ?_
  clear C5
  rintro e w6 ⟨Ax, nx, cx, rfl, hlx, hOx, hB6⟩
  have hA6 := hA5.below hB6
  have hB16 := hB15.trans (hB6.mono hB15.size)
  have hv := str_of_own hOx hlx
  rw [show DS.readL ⟨[97, 98, 99], [], 3, 0, false, -1, 1, 3⟩ 0 = [97, 98, 99] from rfl, str_abc] at hv
  rw [show DS.may ⟨[97, 98, 99], [], 3, 0, false, -1, 1, 3⟩ 0 = 0 from rfl]
  have D1 := Lib.hid (lives_any a _ fp5 w6 hA6.d G4 (show (3 : Nat) ≤ 1000000 by decide) (show (1 : Nat) ≤ 1000000 by decide))
  have D2 := Lib.hid fun q => steps_any a _ fp5 (w6.drewN q) (hA6.d.keep (fun _ _ => rfl)) G4 (show (3 : Nat) ≤ 1000000 by decide) (show (1 : Nat) ≤ 1000000 by decide)
  clear hOx hlx hA4a hB14a hA5 hB5
  go_wp2_with fail
  refine D1.out.mono ?_
  rintro e w7 ⟨rfl, q1, rfl⟩
  go_wp2_with fail
  refine (D2.out q1).mono ?_
  rintro e w8 ⟨rfl, q2, rfl⟩
  go_wp2_with fail
  go_ret
  exact ⟨rfl, below_drewN hB16 _⟩
end Go.Proofs.Ytkjaljfoaagfdaa.both
