/- DiskAll answers true: what a disk does in any run of operations. Conditions: what the slice reads as. -/
import Derived.Test.YtkjaljfoaagfdaaBegunD
namespace Go.Proofs.Ytkjaljfoaagfdaa.both
open Go.RowKit Go.Proofs.Ytkjaljfoaagfdaa.kit Go.Proofs.Ytkjaljfoaagfdaa.nums Go.Proofs.Ytkjaljfoaagfdaa.ds Go.Proofs.Ytkjaljfoaagfdaa.disk Go.Proofs.Ytkjaljfoaagfdaa.ref4 Go.Proofs.Ytkjaljfoaagfdaa.bytes Go.Proofs.Ytkjaljfoaagfdaa.law0
set_option linter.unusedVariables false

/-- Behind the first j operations. -/
def runS (S : DS) (os : List OpL) : DS := os.foldl opS S
theorem runS_take {S : DS} {os : List OpL} {j : Nat} {x : OpL} (h : os[j]? = some x) : runS S (os.take (j + 1)) = opS (runS S (os.take j)) x := by
  unfold runS
  rw [List.take_add_one, h, List.foldl_append]
  rfl
theorem runS_near (S : DS) (os : List OpL) : (runS S os).stepped ≤ S.stepped + os.length ∧ (runS S os).powers ≤ S.powers + os.length := by
  induction os generalizing S with
  | nil => exact ⟨Nat.le_refl _, Nat.le_refl _⟩
  | cons x os ih =>
    have h1 := ih (opS S x)
    have h2 := near_op S x
    unfold DS.Near at h2
    unfold runS at *
    rw [List.foldl_cons, List.length_cons]
    omega
/-- Both disks, new. -/
theorem both_new {w w1 w2 : World} {a : Nat} {fp : Nat → Prop} (hd : IsDisk w1 a DS.fresh fp) (hf : ∀ k, fp k → w.heap.size ≤ k) (hb : Below w.heap.size w w1) (hr : IsRef w2 w1.heap.size DS.fresh) (hb2 : Below w1.heap.size w1 w2) : Both w2 w.heap.size a w1.heap.size DS.fresh fp :=
  ⟨hd.keep (fun k hk => hb2.block k (hd.lt k hk)), hr, fun h => by have := hd.lt _ h; omega, hf, hb.size, DS.Good.fresh⟩

set_option maxHeartbeats 1000000 in
theorem all_walk (A : Option Addr) (n c : Nat) (os : List OpL) (w : World) (hR : RdOp w w.heap.size A n os) (hO : ∀ x ∈ os, OpOk x) (hnc : n ≤ c) (hcm : c ≤ maxLen) :
    Calls Try.prog 3 #[.slice A n c] w fun e w' => e = .returned (.bool true) ∧ Below w.heap.size w w' := by
  have hx1 := hcm
  unfold maxLen at hx1
  have HO := Lib.hid hO
  go_enter Try.func3, Try.ntmps3
  go_wp2_with fail
  refine (begun_any w).mono ?_
  rintro e w1 ⟨rfl, hB1⟩
  have hR1 := hR.below hB1
  have C1 := Lib.hid (light_any A n c 100 os w1 _ hR1 (by omega) (by omega))
  clear hR hO
  go_wp2_with fail
  refine C1.out.mono ?_
  clear C1
  rintro e w2 ⟨r, rfl, hr, rfl⟩
  rcases r with _ | _
  · go_wp2_with fail
    go_ret
    exact ⟨rfl, hB1⟩
  obtain ⟨hn, hl⟩ := hr rfl
  have HL := Lib.hid hl
  clear hr hl
  go_wp2_with fail
  refine (disk.new_any w1).mono ?_
  rintro e w3 ⟨a, fp, rfl, hd, hf, hB3⟩
  go_wp2_with fail
  refine (ref4.new_any w3).mono ?_
  rintro e w4 ⟨rfl, hr4, hB4⟩
  have hb := both_new hd hf hB3 hr4 hB4
  have hB14 := hB3.trans (hB4.mono hB3.size)
  have HC := Lib.hid (show ∀ j, j < n → _ from fun j hj => (hR1.at_ hj))
  have HN := Lib.hid hR1.1
  have h10 := hB1.size
  generalize w3.heap.size = g at *
  clear hB3 hB4 hr4 hd hf hR1
  go_wp2_with fail
  go_loopw [5] (fun i wr => ∃ (j : Nat) (fp' : Nat → Prop), j ≤ n ∧ i = .int .i64 j ∧ Both wr w1.heap.size a g (runS DS.fresh (os.take j)) fp' ∧ Below w1.heap.size w1 wr) (fun i _ => n - (intOf i).toNat)
  case atStart => exact ⟨0, fp, by omega, rfl, hb, hB14⟩
  case round =>
    obtain ⟨j, fp', hj, rfl, hb', hB⟩ := hrel
    have hnr := runS_near DS.fresh (os.take j)
    have hjl : (os.take j).length ≤ 100 := by rw [List.length_take]; omega
    have hs : (runS DS.fresh (os.take j)).stepped ≤ 1000000 := by have : DS.fresh.stepped = 0 := rfl; omega
    have hp : (runS DS.fresh (os.take j)).powers ≤ 1000000 := by have : DS.fresh.powers = 0 := rfl; omega
    by_cases hlt : j < n
    · obtain ⟨b, o, x, rfl, hbl, hx, h0, h1, h2, v3, v4, h3, h4, hv⟩ := HC.out j hlt
      have hcc := fun i => hB.cell (p := ⟨b, i, none⟩) (show b < w1.heap.size by omega)
      rw [← hcc] at h0 h1 h2 h3 h4
      have hxl := HL.out x (List.mem_of_getElem? hx)
      have C := Lib.hid (do_any w1.heap.size a g _ fp' x v3 v4 wr hb' hs hp (HO.out x (List.mem_of_getElem? hx)) ((hv.more h10).below hB) hB.size hxl.1 hxl.2)
      have HT := Lib.hid (runS_take (S := DS.fresh) hx)
      have i0 : (0 : Int) ≤ j ∧ (j : Int) < n := by omega
      clear hcc
      go_wp2_with fail
      refine C.out.mono ?_
      clear C
      rintro e y1 ⟨fp1, rfl, hb1, hY1⟩
      rw [← HT.out] at hb1
      have hnr2 := runS_near DS.fresh (os.take (j + 1))
      have hjl2 : (os.take (j + 1)).length ≤ 100 := by rw [List.length_take]; omega
      have C2 := Lib.hid (same_any w1.heap.size a g _ fp1 y1 hb1 (by have : DS.fresh.stepped = 0 := rfl; omega) (by have : DS.fresh.powers = 0 := rfl; omega))
      have hBy := hB.trans hY1
      clear h0 h1 h2 h3 h4 hv hs hp hnr hjl hnr2 hjl2 hb' hY1
      go_wp2_with fail
      refine C2.out.mono ?_
      clear C2
      rintro e y2 ⟨rfl, hY2⟩
      have hb2 := hb1.below hY2
      have hB2 := hBy.trans (hY2.mono hBy.size)
      clear hb1 hBy hY2
      go_wp2_with fail
      go_roundw
      case rel => exact ⟨j + 1, fp1, by omega, by go_num, hb2, hB2⟩
      case measure => simp [intOf]; omega
    · obtain rfl : j = n := by omega
      have hbw := hB1.trans (hB.mono h10)
      have hs0 : (runS DS.fresh (os.take j)).stepped ≤ 200 := by have : DS.fresh.stepped = 0 := rfl; omega
      have hp0 : (runS DS.fresh (os.take j)).powers ≤ 200 := by have : DS.fresh.powers = 0 := rfl; omega
      generalize runS DS.fresh (os.take j) = S at *
      have C1 := Lib.hid (disk.power_any a S fp' wr hb'.d hb'.good hs hp none 0 0 [] (RdV.nil _ _ _) (fun z hz => by cases hz) (fun h => absurd h (by omega)) (by omega))
      have HSG := Lib.hid (hb'.good.pow hp [])
      go_wp2_with fail
      refine C1.out.mono ?_
      clear C1
      rintro e y1 ⟨fp1, rfl, hI1, hc1⟩
      obtain ⟨t1, t2, t3, t4⟩ := hb'.turned hB.size hI1 hc1
      have C2 := Lib.hid (ref4.power_any g S none 0 0 [] y1 t3 hb'.good hp (RdV.nil _ _ _) (fun z hz => by cases hz) (fun h => absurd h (by omega)) (by omega))
      go_wp2_with fail
      refine C2.out.mono ?_
      clear C2
      rintro e y2 ⟨rfl, hR2, hG2⟩
      have hb2 := Both.met hI1 hR2 hG2 t1 t2 hb'.gB HSG.out
      have hs1 := Nat.le_trans hB.size hc1.size
      have hBy := t4.trans (below_of_grown hG2 hb'.gB hs1)
      have hnear := DS.Near.pow S []
      unfold DS.Near at hnear
      have hp2 : (S.powS []).powers ≤ 1000000 := by omega
      have hs2 : (S.powS []).stepped ≤ 1000000 := by omega
      have C3 := Lib.hid (same_any w1.heap.size a g _ fp1 y2 hb2 hs2 hp2)
      have hbz := hbw.trans (hBy.mono h10)
      clear hI1 hc1 t1 t2 t3 t4 hR2 hG2 hb' hb2
      go_wp2_with fail
      refine C3.out.mono ?_
      clear C3
      rintro e y3 ⟨rfl, hY3⟩
      go_wp2_with fail
      go_ret
      exact ⟨rfl, hbz.trans (hY3.mono hbz.size)⟩
end Go.Proofs.Ytkjaljfoaagfdaa.both
