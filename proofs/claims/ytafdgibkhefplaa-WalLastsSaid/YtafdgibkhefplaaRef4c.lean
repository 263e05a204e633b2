/- What the document's disk (antipoderef4) comes to: Power, Copy. Conditions: the disk is a good one (DS.Good). -/
import Derived.Test.YtafdgibkhefplaaRef4
import Derived.BigQuiet
import Derived.Deep.Cut
namespace Go.Proofs.Ytafdgibkhefplaa.ref4
open Go.RowKit Go.Proofs.Ytafdgibkhefplaa.kit Go.Proofs.Ytafdgibkhefplaa.nums Go.Proofs.Ytafdgibkhefplaa.ds
set_option linter.unusedVariables false

theorem grown_drew (w : World) (k : Option Nat) : w.grownBy w.drew k := ⟨rfl, rfl, rfl, Nat.le_refl _, fun _ _ _ => rfl⟩
theorem str_take (l : List Int) (n : Nat) : (strOfNums l).extract 0 n = strOfNums (l.take n) := by
  apply ByteArray.ext
  simp [strOfNums, List.map_take]
/-- The state behind so many files. -/
def stageP (S : DS) (keep : List Int) (j : Nat) : DS := if j = 0 then S else if j = 1 then S.powA keep else (S.powA keep).powB keep
theorem powA_b (S : DS) (keep : List Int) : (S.powA keep).b = S.b := rfl

set_option maxRecDepth 100000 in
set_option maxHeartbeats 2000000 in
theorem power_any (g : Nat) (S : DS) (K : Option Addr) (n c : Nat) (zs : List Int) (w : World) (h : IsRef w g S) (hS : S.Good) (hs : S.powers ≤ 1000000) (hZ : RdV w w.heap.size K n (zs.map (Value.int .i64))) (hz : ∀ z ∈ zs, -9223372036854775808 ≤ z ∧ z ≤ 9223372036854775807) (hg : 0 < n → ∀ b o, K = some ⟨b, o, none⟩ → b ≠ g) (hn : n ≤ 1099511627776) :
    Calls Try.prog 34 #[.pointer (some ⟨g, 0, none⟩), .slice K n c] w (fun e w' => e = .returned (.tuple #[]) ∧ IsRef w' g (S.powS zs) ∧ w.grownBy w' (some g)) := by
  have hna := hS.na
  have hnb := hS.nb
  have hla := hS.la
  have hlb := hS.lb
  have HI := Lib.hid h
  have HC := Lib.hid (show ∀ j, j < n → ∃ b o, K = some ⟨b, o, none⟩ ∧ b ≠ g ∧ b < w.heap.size ∧ w.cell? ⟨b, o + j, none⟩ = some (.int .i64 (zs.getD j 0)) ∧ (-9223372036854775808 ≤ zs.getD j 0 ∧ zs.getD j 0 ≤ 9223372036854775807) from fun j hj => by
    obtain ⟨b, o, u, e, hu, hc⟩ := hZ.at_ hj
    obtain ⟨b', o', e', hb, _⟩ := hZ.2 (by omega)
    rw [e] at e'
    simp only [Option.some.injEq, Addr.mk.injEq, and_true] at e'
    obtain ⟨rfl, rfl⟩ := e'
    rw [List.getElem?_map] at hu
    cases hz' : zs[j]? with
    | none => rw [hz'] at hu; simp at hu
    | some z =>
      rw [hz'] at hu
      simp at hu
      have hd : zs.getD j 0 = z := by rw [List.getD_eq_getElem?_getD, hz']; rfl
      rw [hd]
      exact ⟨b, o, e, hg (by omega) b o e, hb, by rw [hu]; exact hc, hz z (List.mem_of_getElem? hz')⟩)
  have HL : Hid (zs.length = n) := by show _ = _; have := hZ.1; rwa [List.length_map] at this
  clear hZ
  go_enter Try.func34, Try.ntmps34
  go_wp2_with fail
  go_loopw [4] (fun i wr => ∃ j : Nat, j ≤ 2 ∧ i = .int .i64 j ∧ IsRef wr g (stageP S zs j) ∧ w.grownBy wr (some g)) (fun i _ => 2 - (intOf i).toNat)
  case atStart => exact ⟨0, by omega, rfl, h, World.grownBy.refl _ _⟩
  case round =>
    obtain ⟨j, hj, rfl, hI, hG⟩ := hrel
    rcases (by omega : j = 0 ∨ j = 1 ∨ j = 2) with rfl | rfl | rfl
    · have hI0 : IsRef wr g S := hI
      have c0 := hI0.c0
      have c2 := hI0.c2
      have z0 := strOfNums_size S.a
      have df := fun i => Blk.frozen hI0 i
      have hl0 : S.la ≤ S.a.length := by first | exact hla | exact hlb
      have hn0' : S.a.length ≤ 4194304 := by first | exact hna | exact hnb
      have HT := Lib.hid (show stageP S zs 1 = { S with la := S.la + min (DS.keepN zs 0) (S.a.length - S.la), a := S.a.take (S.la + min (DS.keepN zs 0) (S.a.length - S.la)) } from rfl)
      have hkn : ((DS.keepN zs 0 : Nat) : Int) = max (zs.getD 0 0) 0 := by unfold DS.keepN; omega
      obtain ⟨r, hr⟩ : ∃ r, min (DS.keepN zs 0) (S.a.length - S.la) = r := ⟨_, rfl⟩
      have hrl : S.la + r ≤ S.a.length := by omega
      rw [hr] at HT
      by_cases hc : 0 < n ∧ 0 < zs.getD 0 0
      · obtain ⟨b, o, rfl, hbg, hbw, hcell0, hrz⟩ := HC.out 0 hc.1
        have hcell : wr.cell? ⟨b, o, none⟩ = some (.int .i64 (zs.getD 0 0)) := by
          have := hG.block b hbw (by simpa using hbg)
          rw [World.cell?_of_block (a := ⟨b, o, none⟩) this]; exact hcell0
        have hn0 := hc.1
        have hzp := hc.2
        have hkk : (if (S.a.length : Int) - S.la < zs.getD 0 0 then (S.a.length : Int) - S.la else zs.getD 0 0) = r := by split <;> omega
        generalize zs.getD 0 0 = z at *
        clear hcell0 hc hr hkn
        go_upto_region 6 with (fail)
        go_quiet (fail)
        go_upto_region 7 with (fail)
        have hI7 : IsRef (wr.drewN nq) g S := hI0
        have hG7 : w.grownBy (wr.drewN nq) (some g) := ⟨hG.os, hG.tape, hG.output, hG.size, hG.block⟩
        clear c0 c2 df
        generalize wr.drewN nq = W at *
        have c0 := hI7.c0
        have c2 := hI7.c2
        have df := fun i => Blk.frozen hI7 i
        go_still_tail 13, (by kernel_rfl)
        change wpList _ _ _ _ _ W.drew
        go_upto_region 8 with (fail)
        have e0 : IsRef (W.setCell ⟨g, 2, none⟩ (.int .i64 ((S.la : Int) + r))).drew g { S with la := S.la + r } := IsRef.set (w := W) hI7 2 _ (by simp [refV])
        have G1 : w.grownBy (W.setCell ⟨g, 2, none⟩ (.int .i64 ((S.la : Int) + r))).drew (some g) := grown_trans hG7 (grown_trans (grown_set W g 2 _) (grown_drew _ _))
        have b0 := e0.c0
        have b2 := e0.c2
        dsimp only at b0 b2
        have bf := fun i => Blk.frozen e0 i
        generalize (W.setCell ⟨g, 2, none⟩ (.int .i64 ((S.la : Int) + r))).drew = X at *
        rw [show (((S.la + r : Nat)) : Int) = ((S.la : Int) + r) by omega] at b2
        have s1 : (0 : Int) ≤ ((S.la : Int) + r) ∧ ((S.la : Int) + r) ≤ S.a.length := by omega
        have s2 : ((S.la : Int) + r).toNat = (S.la + r) := by omega
        have s3 := str_take S.a (S.la + r)
        clear c0 c2 df
        go_still_tail 18, (by kernel_rfl)
        change wpList _ _ _ _ _ X.drew
        go_wp2_with fail
        go_roundw
        case rel =>
          refine ⟨1, by omega, by go_num, ?_, grown_trans G1 (grown_trans (grown_set X g 0 _) (grown_drew _ _))⟩
          rw [HT.out]
          exact IsRef.set (w := X) e0 0 _ (by simp [refV])
        case measure => simp [intOf]
      · by_cases hn0 : 0 < n
        · obtain ⟨b, o, rfl, hbg, hbw, hcell0, hrz⟩ := HC.out 0 hn0
          have hcell : wr.cell? ⟨b, o, none⟩ = some (.int .i64 (zs.getD 0 0)) := by
            have := hG.block b hbw (by simpa using hbg)
            rw [World.cell?_of_block (a := ⟨b, o, none⟩) this]; exact hcell0
          have hzp : ¬ 0 < zs.getD 0 0 := fun e => hc ⟨hn0, e⟩
          obtain rfl : r = 0 := by omega
          generalize zs.getD 0 0 = z at *
          clear hcell0 hc hr hkn
          go_upto_region 6 with (fail)
          go_quiet (fail)
          go_upto_region 7 with (fail)
          have hI7 : IsRef (wr.drewN nq) g S := hI0
          have hG7 : w.grownBy (wr.drewN nq) (some g) := ⟨hG.os, hG.tape, hG.output, hG.size, hG.block⟩
          clear c0 c2 df
          generalize wr.drewN nq = W at *
          have c0 := hI7.c0
          have c2 := hI7.c2
          have df := fun i => Blk.frozen hI7 i
          go_still_tail 13, (by kernel_rfl)
          change wpList _ _ _ _ _ W.drew
          go_upto_region 8 with (fail)
          have e0 : IsRef (W.setCell ⟨g, 2, none⟩ (.int .i64 (S.la : Int))).drew g { S with la := S.la + 0 } := IsRef.set (w := W) hI7 2 _ (by simp [refV])
          have G1 : w.grownBy (W.setCell ⟨g, 2, none⟩ (.int .i64 (S.la : Int))).drew (some g) := grown_trans hG7 (grown_trans (grown_set W g 2 _) (grown_drew _ _))
          have b0 := e0.c0
          have b2 := e0.c2
          dsimp only at b0 b2
          have bf := fun i => Blk.frozen e0 i
          generalize (W.setCell ⟨g, 2, none⟩ (.int .i64 (S.la : Int))).drew = X at *
          rw [show (((S.la + 0 : Nat)) : Int) = (S.la : Int) by omega] at b2
          have s1 : (0 : Int) ≤ (S.la : Int) ∧ (S.la : Int) ≤ S.a.length := by omega
          have s2 : (S.la : Int).toNat = S.la := by omega
          have s3 := str_take S.a S.la
          clear c0 c2 df
          go_still_tail 18, (by kernel_rfl)
          change wpList _ _ _ _ _ X.drew
          go_wp2_with fail
          go_roundw
          case rel =>
            refine ⟨1, by omega, by go_num, ?_, grown_trans G1 (grown_trans (grown_set X g 0 _) (grown_drew _ _))⟩
            rw [HT.out]
            exact IsRef.set (w := X) e0 0 _ (by simp [refV])
          case measure => simp [intOf]
        · have hz0 : zs.getD 0 0 = 0 := by rw [List.getD_eq_getElem?_getD, List.getElem?_eq_none (by have := HL.out; omega)]; rfl
          obtain rfl : r = 0 := by omega
          clear hc hr hkn hz0
          go_upto_region 6 with (fail)
          go_quiet (fail)
          go_upto_region 7 with (fail)
          have hI7 : IsRef (wr.drewN nq) g S := hI0
          have hG7 : w.grownBy (wr.drewN nq) (some g) := ⟨hG.os, hG.tape, hG.output, hG.size, hG.block⟩
          clear c0 c2 df
          generalize wr.drewN nq = W at *
          have c0 := hI7.c0
          have c2 := hI7.c2
          have df := fun i => Blk.frozen hI7 i
          go_still_tail 13, (by kernel_rfl)
          change wpList _ _ _ _ _ W.drew
          go_upto_region 8 with (fail)
          have e0 : IsRef (W.setCell ⟨g, 2, none⟩ (.int .i64 (S.la : Int))).drew g { S with la := S.la + 0 } := IsRef.set (w := W) hI7 2 _ (by simp [refV])
          have G1 : w.grownBy (W.setCell ⟨g, 2, none⟩ (.int .i64 (S.la : Int))).drew (some g) := grown_trans hG7 (grown_trans (grown_set W g 2 _) (grown_drew _ _))
          have b0 := e0.c0
          have b2 := e0.c2
          dsimp only at b0 b2
          have bf := fun i => Blk.frozen e0 i
          generalize (W.setCell ⟨g, 2, none⟩ (.int .i64 (S.la : Int))).drew = X at *
          rw [show (((S.la + 0 : Nat)) : Int) = (S.la : Int) by omega] at b2
          have s1 : (0 : Int) ≤ (S.la : Int) ∧ (S.la : Int) ≤ S.a.length := by omega
          have s2 : (S.la : Int).toNat = S.la := by omega
          have s3 := str_take S.a S.la
          clear c0 c2 df
          go_still_tail 18, (by kernel_rfl)
          change wpList _ _ _ _ _ X.drew
          go_wp2_with fail
          go_roundw
          case rel =>
            refine ⟨1, by omega, by go_num, ?_, grown_trans G1 (grown_trans (grown_set X g 0 _) (grown_drew _ _))⟩
            rw [HT.out]
            exact IsRef.set (w := X) e0 0 _ (by simp [refV])
          case measure => simp [intOf]
    · have hI0 : IsRef wr g (S.powA zs) := hI
      have c0 := hI0.c1
      have c2 := hI0.c3
      have z0 := strOfNums_size (S.powA zs).b
      have df := fun i => Blk.frozen hI0 i
      have hl0 : (S.powA zs).lb ≤ (S.powA zs).b.length := by first | exact hla | exact hlb
      have hn0' : (S.powA zs).b.length ≤ 4194304 := by first | exact hna | exact hnb
      have HT := Lib.hid (show stageP S zs 2 = { (S.powA zs) with lb := (S.powA zs).lb + min (DS.keepN zs 1) ((S.powA zs).b.length - (S.powA zs).lb), b := (S.powA zs).b.take ((S.powA zs).lb + min (DS.keepN zs 1) ((S.powA zs).b.length - (S.powA zs).lb)) } from rfl)
      have hkn : ((DS.keepN zs 1 : Nat) : Int) = max (zs.getD 1 0) 0 := by unfold DS.keepN; omega
      obtain ⟨r, hr⟩ : ∃ r, min (DS.keepN zs 1) ((S.powA zs).b.length - (S.powA zs).lb) = r := ⟨_, rfl⟩
      have hrl : (S.powA zs).lb + r ≤ (S.powA zs).b.length := by omega
      rw [hr] at HT
      by_cases hc : 1 < n ∧ 0 < zs.getD 1 0
      · obtain ⟨b, o, rfl, hbg, hbw, hcell0, hrz⟩ := HC.out 1 hc.1
        have hcell : wr.cell? ⟨b, o + 1, none⟩ = some (.int .i64 (zs.getD 1 0)) := by
          have := hG.block b hbw (by simpa using hbg)
          rw [World.cell?_of_block (a := ⟨b, o + 1, none⟩) this]; exact hcell0
        have hn0 := hc.1
        have hzp := hc.2
        have hkk : (if ((S.powA zs).b.length : Int) - (S.powA zs).lb < zs.getD 1 0 then ((S.powA zs).b.length : Int) - (S.powA zs).lb else zs.getD 1 0) = r := by split <;> omega
        generalize zs.getD 1 0 = z at *
        clear hcell0 hc hr hkn
        go_upto_region 6 with (fail)
        go_quiet (fail)
        go_upto_region 7 with (fail)
        have hI7 : IsRef (wr.drewN nq) g (S.powA zs) := hI0
        have hG7 : w.grownBy (wr.drewN nq) (some g) := ⟨hG.os, hG.tape, hG.output, hG.size, hG.block⟩
        clear c0 c2 df
        generalize wr.drewN nq = W at *
        have c0 := hI7.c1
        have c2 := hI7.c3
        have df := fun i => Blk.frozen hI7 i
        go_still_tail 13, (by kernel_rfl)
        change wpList _ _ _ _ _ W.drew
        go_upto_region 8 with (fail)
        have e0 : IsRef (W.setCell ⟨g, 3, none⟩ (.int .i64 (((S.powA zs).lb : Int) + r))).drew g { (S.powA zs) with lb := (S.powA zs).lb + r } := IsRef.set (w := W) hI7 3 _ (by simp [refV])
        have G1 : w.grownBy (W.setCell ⟨g, 3, none⟩ (.int .i64 (((S.powA zs).lb : Int) + r))).drew (some g) := grown_trans hG7 (grown_trans (grown_set W g 3 _) (grown_drew _ _))
        have b0 := e0.c1
        have b2 := e0.c3
        dsimp only at b0 b2
        have bf := fun i => Blk.frozen e0 i
        generalize (W.setCell ⟨g, 3, none⟩ (.int .i64 (((S.powA zs).lb : Int) + r))).drew = X at *
        rw [show ((((S.powA zs).lb + r : Nat)) : Int) = (((S.powA zs).lb : Int) + r) by omega] at b2
        have s1 : (0 : Int) ≤ (((S.powA zs).lb : Int) + r) ∧ (((S.powA zs).lb : Int) + r) ≤ (S.powA zs).b.length := by omega
        have s2 : (((S.powA zs).lb : Int) + r).toNat = ((S.powA zs).lb + r) := by omega
        have s3 := str_take (S.powA zs).b ((S.powA zs).lb + r)
        clear c0 c2 df
        go_still_tail 18, (by kernel_rfl)
        change wpList _ _ _ _ _ X.drew
        go_wp2_with fail
        go_roundw
        case rel =>
          refine ⟨2, by omega, by go_num, ?_, grown_trans G1 (grown_trans (grown_set X g 1 _) (grown_drew _ _))⟩
          rw [HT.out]
          exact IsRef.set (w := X) e0 1 _ (by simp [refV])
        case measure => simp [intOf]
      · by_cases hn0 : 1 < n
        · obtain ⟨b, o, rfl, hbg, hbw, hcell0, hrz⟩ := HC.out 1 hn0
          have hcell : wr.cell? ⟨b, o + 1, none⟩ = some (.int .i64 (zs.getD 1 0)) := by
            have := hG.block b hbw (by simpa using hbg)
            rw [World.cell?_of_block (a := ⟨b, o + 1, none⟩) this]; exact hcell0
          have hzp : ¬ 0 < zs.getD 1 0 := fun e => hc ⟨hn0, e⟩
          obtain rfl : r = 0 := by omega
          generalize zs.getD 1 0 = z at *
          clear hcell0 hc hr hkn
          go_upto_region 6 with (fail)
          go_quiet (fail)
          go_upto_region 7 with (fail)
          have hI7 : IsRef (wr.drewN nq) g (S.powA zs) := hI0
          have hG7 : w.grownBy (wr.drewN nq) (some g) := ⟨hG.os, hG.tape, hG.output, hG.size, hG.block⟩
          clear c0 c2 df
          generalize wr.drewN nq = W at *
          have c0 := hI7.c1
          have c2 := hI7.c3
          have df := fun i => Blk.frozen hI7 i
          go_still_tail 13, (by kernel_rfl)
          change wpList _ _ _ _ _ W.drew
          go_upto_region 8 with (fail)
          have e0 : IsRef (W.setCell ⟨g, 3, none⟩ (.int .i64 ((S.powA zs).lb : Int))).drew g { (S.powA zs) with lb := (S.powA zs).lb + 0 } := IsRef.set (w := W) hI7 3 _ (by simp [refV])
          have G1 : w.grownBy (W.setCell ⟨g, 3, none⟩ (.int .i64 ((S.powA zs).lb : Int))).drew (some g) := grown_trans hG7 (grown_trans (grown_set W g 3 _) (grown_drew _ _))
          have b0 := e0.c1
          have b2 := e0.c3
          dsimp only at b0 b2
          have bf := fun i => Blk.frozen e0 i
          generalize (W.setCell ⟨g, 3, none⟩ (.int .i64 ((S.powA zs).lb : Int))).drew = X at *
          rw [show ((((S.powA zs).lb + 0 : Nat)) : Int) = ((S.powA zs).lb : Int) by omega] at b2
          have s1 : (0 : Int) ≤ ((S.powA zs).lb : Int) ∧ ((S.powA zs).lb : Int) ≤ (S.powA zs).b.length := by omega
          have s2 : ((S.powA zs).lb : Int).toNat = (S.powA zs).lb := by omega
          have s3 := str_take (S.powA zs).b (S.powA zs).lb
          clear c0 c2 df
          go_still_tail 18, (by kernel_rfl)
          change wpList _ _ _ _ _ X.drew
          go_wp2_with fail
          go_roundw
          case rel =>
            refine ⟨2, by omega, by go_num, ?_, grown_trans G1 (grown_trans (grown_set X g 1 _) (grown_drew _ _))⟩
            rw [HT.out]
            exact IsRef.set (w := X) e0 1 _ (by simp [refV])
          case measure => simp [intOf]
        · have hz0 : zs.getD 1 0 = 0 := by rw [List.getD_eq_getElem?_getD, List.getElem?_eq_none (by have := HL.out; omega)]; rfl
          obtain rfl : r = 0 := by omega
          clear hc hr hkn hz0
          go_upto_region 6 with (fail)
          go_quiet (fail)
          go_upto_region 7 with (fail)
          have hI7 : IsRef (wr.drewN nq) g (S.powA zs) := hI0
          have hG7 : w.grownBy (wr.drewN nq) (some g) := ⟨hG.os, hG.tape, hG.output, hG.size, hG.block⟩
          clear c0 c2 df
          generalize wr.drewN nq = W at *
          have c0 := hI7.c1
          have c2 := hI7.c3
          have df := fun i => Blk.frozen hI7 i
          go_still_tail 13, (by kernel_rfl)
          change wpList _ _ _ _ _ W.drew
          go_upto_region 8 with (fail)
          have e0 : IsRef (W.setCell ⟨g, 3, none⟩ (.int .i64 ((S.powA zs).lb : Int))).drew g { (S.powA zs) with lb := (S.powA zs).lb + 0 } := IsRef.set (w := W) hI7 3 _ (by simp [refV])
          have G1 : w.grownBy (W.setCell ⟨g, 3, none⟩ (.int .i64 ((S.powA zs).lb : Int))).drew (some g) := grown_trans hG7 (grown_trans (grown_set W g 3 _) (grown_drew _ _))
          have b0 := e0.c1
          have b2 := e0.c3
          dsimp only at b0 b2
          have bf := fun i => Blk.frozen e0 i
          generalize (W.setCell ⟨g, 3, none⟩ (.int .i64 ((S.powA zs).lb : Int))).drew = X at *
          rw [show ((((S.powA zs).lb + 0 : Nat)) : Int) = ((S.powA zs).lb : Int) by omega] at b2
          have s1 : (0 : Int) ≤ ((S.powA zs).lb : Int) ∧ ((S.powA zs).lb : Int) ≤ (S.powA zs).b.length := by omega
          have s2 : ((S.powA zs).lb : Int).toNat = (S.powA zs).lb := by omega
          have s3 := str_take (S.powA zs).b (S.powA zs).lb
          clear c0 c2 df
          go_still_tail 18, (by kernel_rfl)
          change wpList _ _ _ _ _ X.drew
          go_wp2_with fail
          go_roundw
          case rel =>
            refine ⟨2, by omega, by go_num, ?_, grown_trans G1 (grown_trans (grown_set X g 1 _) (grown_drew _ _))⟩
            rw [HT.out]
            exact IsRef.set (w := X) e0 1 _ (by simp [refV])
          case measure => simp [intOf]
    · have HT := Lib.hid (show S.powS zs = { stageP S zs 2 with off := false, arms := -1, powers := S.powers + 1 } from rfl)
      have hp : (stageP S zs 2).powers = S.powers := rfl
      obtain ⟨D, hD⟩ : ∃ D, stageP S zs 2 = D := ⟨_, rfl⟩
      rw [hD] at hI HT hp
      have c4 := hI.c4
      have c5 := hI.c5
      have c6 := hI.c6
      have df := fun i => Blk.frozen hI i
      rw [hp] at c6
      clear hD
      go_wp2_with fail
      go_end0
      refine ⟨rfl, ?_, grown_trans hG (grown_trans (grown_trans (grown_set _ _ _ _) (grown_set _ _ _ _)) (grown_set _ _ _ _))⟩
      rw [HT.out]
      exact IsRef.set (S := { D with off := false, arms := -1 }) (IsRef.set (S := { D with off := false }) (IsRef.set hI 4 _ (by simp [refV])) 5 _ (by simp [refV])) 6 _ (by simp [refV])
end Go.Proofs.Ytafdgibkhefplaa.ref4
