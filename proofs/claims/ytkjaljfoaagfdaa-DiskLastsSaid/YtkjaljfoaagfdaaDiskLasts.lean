/- DiskLasts answers true: what was synced lasts through any failure, up to a Clear. Conditions: what the slices read as. -/
import Derived.Test.YtkjaljfoaagfdaaBegunD
import Derived.Test.YtkjaljfoaagfdaaDsL
namespace Go.Proofs.Ytkjaljfoaagfdaa.both
open Go.RowKit Go.Proofs.Ytkjaljfoaagfdaa.kit Go.Proofs.Ytkjaljfoaagfdaa.nums Go.Proofs.Ytkjaljfoaagfdaa.ds Go.Proofs.Ytkjaljfoaagfdaa.disk Go.Proofs.Ytkjaljfoaagfdaa.bytes Go.Proofs.Ytkjaljfoaagfdaa.law0
set_option linter.unusedVariables false

theorem kind_in (k : Int) : placeF k 6 = 0 ∨ placeF k 6 = 1 ∨ placeF k 6 = 2 ∨ placeF k 6 = 3 ∨ placeF k 6 = 4 ∨ placeF k 6 = 5 := by
  have := place_in k 6 (by omega)
  omega

set_option maxRecDepth 100000 in
set_option maxHeartbeats 4000000 in
theorem lasts_walk (f0 : Int) (A : Option Addr) (n c : Nat) (l : List Int) (A' : Option Addr) (n' c' : Nat) (os : List OpL) (w : World) (hf0 : (Lit.int .i64 f0).wf = true) (hR : Rd w w.heap.size A n l) (hY : Byt l) (hnc : n ≤ c) (hcm : c ≤ maxLen) (hR' : RdOp w w.heap.size A' n' os) (hO : ∀ x ∈ os, OpOk x) (hnc' : n' ≤ c') (hcm' : c' ≤ maxLen) :
    Calls Try.prog 4 #[.int .i64 f0, .slice A n c, .slice A' n' c'] w fun e w' => e = .returned (.bool true) ∧ Below w.heap.size w w' := by
  have hx1 := hcm
  have hx2 := hcm'
  unfold maxLen at hx1 hx2
  have HN := Lib.hid hR.len
  have HO := Lib.hid hO
  have b0 : -9223372036854775808 ≤ f0 ∧ f0 ≤ 9223372036854775807 := by simpa [Lit.wf, IntKind.min, IntKind.max, IntKind.signed, IntKind.bits] using hf0
  clear hf0
  go_enter Try.func4, Try.ntmps4
  go_wp2_with fail
  refine (begun_any w).mono ?_
  rintro e w1 ⟨rfl, hB1⟩
  have hR1 := hR'.below hB1
  have C1 := Lib.hid (light_any A' n' c' 60 os w1 _ hR1 (by omega) (by omega))
  clear hR' hO
  go_wp2_with fail
  refine C1.out.mono ?_
  clear C1
  rintro e w2 ⟨r, rfl, hr, rfl⟩
  rcases r with _ | _
  · go_wp2_with fail
    go_ret
    exact ⟨rfl, hB1⟩
  obtain ⟨hn', hl'⟩ := hr rfl
  have HL := Lib.hid hl'
  clear hr hl'
  by_cases h1 : 1000 < n
  · go_wp2_with fail
    go_ret
    exact ⟨rfl, hB1⟩
  have hll : l.length ≤ 1000 := by rw [HN.out]; omega
  have CP := Lib.hid (place_any f0 2 w1 b0.1 b0.2 (by omega))
  have hpl := place_in f0 2 (by omega)
  obtain ⟨f, hf⟩ : ∃ f, placeF f0 2 = f := ⟨_, rfl⟩
  rw [hf] at CP hpl
  have hf01 : f = 0 ∨ f = 1 := by omega
  clear hf b0
  go_wp2_with fail
  refine CP.out.mono ?_
  clear CP
  rintro e w2 ⟨rfl, rfl⟩
  go_wp2_with fail
  refine (disk.new_any w1).mono ?_
  rintro e w3 ⟨a, fp, rfl, hd, hfp, hB3⟩
  have hB13 := hB1.trans (hB3.mono hB1.size)
  have hA0 : Alone w3 w.heap.size a DS.fresh fp := ⟨hd, fun k hk => Nat.le_trans hB1.size (hfp k hk), DS.Good.fresh⟩
  obtain ⟨E1, E2, HH⟩ := DS.Holds.first hf01 hll
  have C2 := Lib.hid (disk.append_any a DS.fresh fp w3 hd DS.Good.fresh (by decide) (by decide) f A n c l (hR.on hB13 hB13.size) hY (by omega) hnc hcm (hA0.apart hR))
  have N1 := DS.Near.app DS.fresh f l
  have G1 := DS.Good.fresh.app (f := f) (by decide) hY
  rw [E1] at C2
  generalize DS.fresh.appS f l = S1 at *
  go_wp2_with fail
  refine C2.out.mono ?_
  clear C2
  rintro e w4 ⟨fp4, rfl, hd4, hc4⟩
  obtain ⟨hA4, hB4⟩ := hA0.turned hB13.size hd4 hc4 G1
  have hB14 := hB13.trans hB4
  have hn1 : S1.stepped ≤ 1 ∧ S1.powers ≤ 1 := N1
  have C3 := Lib.hid (disk.sync_any a S1 fp4 w4 hd4 G1 (by omega) (by omega) f)
  have N2 := DS.Near.sync S1 f
  have G2 := G1.sync (f := f) (by omega)
  rw [E2] at C3
  generalize S1.syncS f = S2 at *
  go_wp2_with fail
  refine C3.out.mono ?_
  clear C3
  rintro e w5 ⟨fp5, rfl, hd5, hc5⟩
  obtain ⟨hA5, hB5⟩ := hA4.turned hB14.size hd5 hc5 G2
  have hB15 := hB14.trans hB5
  have hn2 : S2.stepped ≤ 2 ∧ S2.powers ≤ 2 := by unfold DS.Near at N2; omega
  have HC := Lib.hid (show ∀ j, j < n' → _ from fun j hj => hR1.at_ hj)
  have HN' := Lib.hid hR1.1
  have HR := Lib.hid hR
  have h10 := hB1.size
  have H1b := Lib.hid hB1
  have hB1t5 : Below w.heap.size w1 w5 := ((hB3.mono h10).trans hB4).trans hB5
  clear hd hd4 hd5 hc4 hc5 hA0 hA4 hfp hB3 hB4 hB5 N1 N2 G1 G2 E1 E2 hB13 hB14 hR1 hR hll hB1
  go_wp2_with fail
  go_loopw [8] (fun i wr => ∃ (j : Nat) (S : DS) (fp' : Nat → Prop), j ≤ n' ∧ i = .int .i64 j ∧ Alone wr w.heap.size a S fp' ∧ Hid (DS.Holds S f l) ∧ S.stepped ≤ 2 + j ∧ S.powers ≤ 2 + j ∧ Below w.heap.size w1 wr) (fun i _ => n' - (intOf i).toNat)
  case atStart => exact ⟨0, S2, fp5, by omega, rfl, hA5, HH, by omega, by omega, hB1t5⟩
  case round =>
    obtain ⟨j, S, fp', hj, rfl, hA, HHo, hs, hp, hB⟩ := hrel
    have hBsz : w.heap.size ≤ wr.heap.size := Nat.le_trans h10 hB.size
    by_cases hlt : j < n'
    · obtain ⟨b, o, x, rfl, hbl, hx, h0, h1', h2, v3, v4, h3, h4, hv⟩ := HC.out j hlt
      have hcc := fun i => hB.cell (p := ⟨b, i, none⟩) (show b < w.heap.size by omega)
      obtain ⟨Ab, cb, rfl, hbc, hbm, hRb⟩ := hv.b
      obtain ⟨Ak, ck, rfl, hkc, hkm, hRk⟩ := hv.keep
      rw [← hcc] at h0 h1' h2 h3 h4
      clear hcc
      have hxl := HL.out x (List.mem_of_getElem? hx)
      have hok := HO.out x (List.mem_of_getElem? hx)
      have i0 : (0 : Int) ≤ j ∧ (j : Int) < n' := by omega
      have hRb1 := (hRb.below hB).below (w' := (wr.alloc (.cells #[.int .i64 x.kind, .int .i64 x.f, .int .i64 x.n, .slice Ab x.b.length cb, .slice Ak x.keep.length ck] 33))) ((Below.refl _ _).alloc hBsz _)
      have hRk1 := (hRk.below hB).below (w' := (wr.alloc (.cells #[.int .i64 x.kind, .int .i64 x.f, .int .i64 x.n, .slice Ab x.b.length cb, .slice Ak x.keep.length ck] 33))) ((Below.refl _ _).alloc hBsz _)
      have hA1 := hA.below (w' := (wr.alloc (.cells #[.int .i64 x.kind, .int .i64 x.f, .int .i64 x.n, .slice Ab x.b.length cb, .slice Ak x.keep.length ck] 33))) ((Below.refl _ _).alloc (Nat.le_refl _) _)
      have hblk : Blk 33 (wr.alloc (.cells #[.int .i64 x.kind, .int .i64 x.f, .int .i64 x.n, .slice Ab x.b.length cb, .slice Ak x.keep.length ck] 33)) wr.heap.size [.int .i64 x.kind, .int .i64 x.f, .int .i64 x.n, .slice Ab x.b.length cb, .slice Ak x.keep.length ck] := heap_alloc_new wr _
      have hB2 : Below w.heap.size w1 (wr.alloc (.cells #[.int .i64 x.kind, .int .i64 x.f, .int .i64 x.n, .slice Ab x.b.length cb, .slice Ak x.keep.length ck] 33)) := hB.alloc hBsz _
      have hsz2 : w.heap.size ≤ (wr.alloc (.cells #[.int .i64 x.kind, .int .i64 x.f, .int .i64 x.n, .slice Ab x.b.length cb, .slice Ak x.keep.length ck] 33)).heap.size := Nat.le_trans h10 hB2.size
      have e0 : (wr.alloc (.cells #[.int .i64 x.kind, .int .i64 x.f, .int .i64 x.n, .slice Ab x.b.length cb, .slice Ak x.keep.length ck] 33)).cell? ⟨wr.heap.size, 0, none⟩ = some (.int .i64 x.kind) := by rw [hblk.cell]; rfl
      have e1 : (wr.alloc (.cells #[.int .i64 x.kind, .int .i64 x.f, .int .i64 x.n, .slice Ab x.b.length cb, .slice Ak x.keep.length ck] 33)).cell? ⟨wr.heap.size, 1, none⟩ = some (.int .i64 x.f) := by rw [hblk.cell]; rfl
      have e2 : (wr.alloc (.cells #[.int .i64 x.kind, .int .i64 x.f, .int .i64 x.n, .slice Ab x.b.length cb, .slice Ak x.keep.length ck] 33)).cell? ⟨wr.heap.size, 2, none⟩ = some (.int .i64 x.n) := by rw [hblk.cell]; rfl
      have e3 : (wr.alloc (.cells #[.int .i64 x.kind, .int .i64 x.f, .int .i64 x.n, .slice Ab x.b.length cb, .slice Ak x.keep.length ck] 33)).cell? ⟨wr.heap.size, 3, none⟩ = some (.slice Ab x.b.length cb) := by rw [hblk.cell]; rfl
      have e4 : (wr.alloc (.cells #[.int .i64 x.kind, .int .i64 x.f, .int .i64 x.n, .slice Ab x.b.length cb, .slice Ak x.keep.length ck] 33)).cell? ⟨wr.heap.size, 4, none⟩ = some (.slice Ak x.keep.length ck) := by rw [hblk.cell]; rfl
      go_upto_region 13 with (fail)
      have CPk := Lib.hid (place_any x.kind 6 (wr.alloc (.cells #[.int .i64 x.kind, .int .i64 x.f, .int .i64 x.n, .slice Ab x.b.length cb, .slice Ak x.keep.length ck] 33)) hok.kind.1 hok.kind.2 (by omega))
      generalize (wr.alloc (.cells #[.int .i64 x.kind, .int .i64 x.f, .int .i64 x.n, .slice Ab x.b.length cb, .slice Ak x.keep.length ck] 33)) = wv at *
      generalize wr.heap.size = go at *
      rcases kind_in x.kind with hk | hk | hk | hk | hk | hk
      · rw [hk] at CPk
        have C := Lib.hid (disk.append_any a S fp' wv hA1.d hA1.good (by omega) (by omega) x.f Ab x.b.length cb x.b (hRb1.more hsz2) hok.b (by omega) hbc hbm (hA1.apart hRb1))
        have hG := Lib.hid (hA1.good.app (f := x.f) (by omega) hok.b)
        have hNr := DS.Near.app S x.f x.b
        have hHn := Lib.hid (HHo.out.app (g := x.f) x.b)
        clear hblk
        go_wp2_with fail
        refine CPk.out.mono ?_
        clear CPk
        rintro e y0 ⟨rfl, rfl⟩
        go_wp2_with fail
        refine C.out.mono ?_
        clear C
        rintro e y1 ⟨fp1, rfl, hI1, hc1⟩
        obtain ⟨hA2, hY⟩ := hA1.turned hsz2 hI1 hc1 hG.out
        have hB3 := hB2.trans hY
        have hNr2 : (S.appS x.f x.b).stepped ≤ S.stepped + 1 ∧ (S.appS x.f x.b).powers ≤ S.powers + 1 := hNr
        generalize S.appS x.f x.b = Sn at *
        clear e0 e1 e2 e3 e4 hRb1 hRk1 hI1 hc1 hB2 hA1 hA hNr hY
        go_wp2_with fail
        go_roundw
        case rel => exact ⟨j + 1, Sn, fp1, by omega, by go_num, hA2, hHn.out, by omega, by omega, hB3⟩
        case measure => simp [intOf]; omega
      · rw [hk] at CPk
        have C := Lib.hid (disk.sync_any a S fp' wv hA1.d hA1.good (by omega) (by omega) x.f)
        have hG := Lib.hid (hA1.good.sync (f := x.f) (by omega))
        have hNr := DS.Near.sync S x.f
        have hHn := Lib.hid (HHo.out.sync (g := x.f) hA1.good)
        clear hblk
        go_wp2_with fail
        refine CPk.out.mono ?_
        clear CPk
        rintro e y0 ⟨rfl, rfl⟩
        go_wp2_with fail
        refine C.out.mono ?_
        clear C
        rintro e y1 ⟨fp1, rfl, hI1, hc1⟩
        obtain ⟨hA2, hY⟩ := hA1.turned hsz2 hI1 hc1 hG.out
        have hB3 := hB2.trans hY
        have hNr2 : (S.syncS x.f).stepped ≤ S.stepped + 1 ∧ (S.syncS x.f).powers ≤ S.powers + 1 := hNr
        generalize S.syncS x.f = Sn at *
        clear e0 e1 e2 e3 e4 hRb1 hRk1 hI1 hc1 hB2 hA1 hA hNr hY
        go_wp2_with fail
        go_roundw
        case rel => exact ⟨j + 1, Sn, fp1, by omega, by go_num, hA2, hHn.out, by omega, by omega, hB3⟩
        case measure => simp [intOf]; omega
      · rw [hk] at CPk
        by_cases hcf : x.f = f
        · have hcf2 : (x.f != f) = false := by simpa using hcf
          clear hblk
          go_wp2_with fail
          refine CPk.out.mono ?_
          clear CPk
          rintro e y0 ⟨rfl, rfl⟩
          go_wp2_with fail
          go_roundw
          case rel => exact ⟨j + 1, S, fp', by omega, by go_num, hA1, HHo.out, by omega, by omega, hB2⟩
          case measure => simp [intOf]; omega
        · have hcf2 : (x.f != f) = true := by simpa using hcf
          have C := Lib.hid (disk.clear_any a S fp' wv hA1.d hA1.good (by omega) (by omega) x.f)
          have hG := Lib.hid (hA1.good.clear (f := x.f) (by omega))
          have hNr := DS.Near.clear S x.f
          have hHn := Lib.hid (HHo.out.clear hf01 hcf)
          clear hblk
          go_wp2_with fail
          refine CPk.out.mono ?_
          clear CPk
          rintro e y0 ⟨rfl, rfl⟩
          go_wp2_with fail
          refine C.out.mono ?_
          clear C
          rintro e y1 ⟨fp1, rfl, hI1, hc1⟩
          obtain ⟨hA2, hY⟩ := hA1.turned hsz2 hI1 hc1 hG.out
          have hB3 := hB2.trans hY
          have hNr2 : (S.clearS x.f).stepped ≤ S.stepped + 1 ∧ (S.clearS x.f).powers ≤ S.powers + 1 := hNr
          generalize S.clearS x.f = Sn at *
          clear e0 e1 e2 e3 e4 hRb1 hRk1 hI1 hc1 hB2 hA1 hA hNr hY
          go_wp2_with fail
          go_roundw
          case rel => exact ⟨j + 1, Sn, fp1, by omega, by go_num, hA2, hHn.out, by omega, by omega, hB3⟩
          case measure => simp [intOf]; omega
      · rw [hk] at CPk
        clear hblk
        go_wp2_with fail
        refine CPk.out.mono ?_
        clear CPk
        rintro e y0 ⟨rfl, rfl⟩
        go_wp2_with fail
        go_roundw
        case rel => exact ⟨j + 1, S, fp', by omega, by go_num, hA1, HHo.out, by omega, by omega, hB2⟩
        case measure => simp [intOf]; omega
      · rw [hk] at CPk
        have C := Lib.hid (disk.arm_any a S fp' wv hA1.d hA1.good (by omega) (by omega) x.n hok.n)
        have hG := Lib.hid (hA1.good.arm hok.n)
        have hNr := (show DS.Near S (S.armS x.n) from ⟨Nat.le_succ _, Nat.le_succ _⟩)
        have hHn := Lib.hid (HHo.out.arm x.n)
        clear hblk
        go_wp2_with fail
        refine CPk.out.mono ?_
        clear CPk
        rintro e y0 ⟨rfl, rfl⟩
        go_wp2_with fail
        refine C.out.mono ?_
        clear C
        rintro e y1 ⟨fp1, rfl, hI1, hc1⟩
        obtain ⟨hA2, hY⟩ := hA1.turned hsz2 hI1 hc1 hG.out
        have hB3 := hB2.trans hY
        have hNr2 : (S.armS x.n).stepped ≤ S.stepped + 1 ∧ (S.armS x.n).powers ≤ S.powers + 1 := hNr
        generalize S.armS x.n = Sn at *
        clear e0 e1 e2 e3 e4 hRb1 hRk1 hI1 hc1 hB2 hA1 hA hNr hY
        go_wp2_with fail
        go_roundw
        case rel => exact ⟨j + 1, Sn, fp1, by omega, by go_num, hA2, hHn.out, by omega, by omega, hB3⟩
        case measure => simp [intOf]; omega
      · rw [hk] at CPk
        have C := Lib.hid (disk.power_any a S fp' wv hA1.d hA1.good (by omega) (by omega) Ak x.keep.length ck x.keep (hRk1.more hsz2) hok.keep (hA1.apartV hRk1) (by omega))
        have hG := Lib.hid (hA1.good.pow (by omega) x.keep)
        have hNr := DS.Near.pow S x.keep
        have hHn := Lib.hid (HHo.out.pow x.keep)
        clear hblk
        go_wp2_with fail
        refine CPk.out.mono ?_
        clear CPk
        rintro e y0 ⟨rfl, rfl⟩
        go_wp2_with fail
        refine C.out.mono ?_
        clear C
        rintro e y1 ⟨fp1, rfl, hI1, hc1⟩
        obtain ⟨hA2, hY⟩ := hA1.turned hsz2 hI1 hc1 hG.out
        have hB3 := hB2.trans hY
        have hNr2 : (S.powS x.keep).stepped ≤ S.stepped + 1 ∧ (S.powS x.keep).powers ≤ S.powers + 1 := hNr
        generalize S.powS x.keep = Sn at *
        clear e0 e1 e2 e3 e4 hRb1 hRk1 hI1 hc1 hB2 hA1 hA hNr hY
        go_wp2_with fail
        go_roundw
        case rel => exact ⟨j + 1, Sn, fp1, by omega, by go_num, hA2, hHn.out, by omega, by omega, hB3⟩
        case measure => simp [intOf]; omega
    · obtain rfl : j = n' := by omega
      have C1 := Lib.hid (disk.power_any a S fp' wr hA.d hA.good (by omega) (by omega) none 0 0 [] (RdV.nil _ _ _) (fun z hz => by cases hz) (fun h => absurd h (by omega)) (by omega))
      have HSG := Lib.hid (hA.good.pow (by omega) [])
      have hHn := HHo.out.pow []
      have hNr : (S.powS []).stepped ≤ S.stepped + 1 ∧ (S.powS []).powers ≤ S.powers + 1 := DS.Near.pow S []
      have hmay : (S.powS []).may f = 0 := by unfold DS.may; rw [if_neg (by show ¬ (false = true); decide), if_pos hf01]
      have hread : (S.powS []).readL f = (S.powS []).file f := by unfold DS.readL; rw [if_neg (by rw [hmay]; decide)]
      go_wp2_with fail
      refine C1.out.mono ?_
      clear C1
      rintro e y1 ⟨fp1, rfl, hI1, hc1⟩
      obtain ⟨hA2, hY⟩ := hA.turned hBsz hI1 hc1 HSG.out
      have hbw := (H1b.out.trans hB).trans hY
      generalize S.powS [] = Sn at *
      have C2 := Lib.hid (disk.read_any a Sn fp1 y1 hA2.d HSG.out (by omega) (by omega) f)
      rw [hmay, hread] at C2
      go_wp2_with fail
      refine C2.out.mono ?_
      clear C2
      rintro e y2 ⟨Ax, nx, cx, rfl, hlx, hOx, hY2⟩
      have hbz := hbw.trans (hY2.mono hbw.size)
      have hcap := hOx.caps hlx
      have hnx : n ≤ nx := by
        have h2 := congrArg List.length hHn.2
        rw [List.length_take, HN.out] at h2
        omega
      have hRx := (hOx.rd hlx).upto hnx
      have e9 : (Sn.file f).take n = l := by have := hHn.2; rwa [HN.out] at this
      rw [e9] at hRx
      have hRz := HR.out.on hbz hbz.size
      have hv1 := fun q => run_string_rd (P := Try.prog) (y2.drewN q) 30 5 9 Try.underlying30 Try.underlying5 Try.underlying9 y2.heap.size Ax n cx l hRx
      have hv2 := fun q => run_string_rd (P := Try.prog) (y2.drewN q) 30 5 9 Try.underlying30 Try.underlying5 Try.underlying9 y2.heap.size A n c l hRz
      have q0 : (0 : Int) ≤ n ∧ (n : Int) ≤ cx := by omega
      have q1 : (n : Int) ≤ nx := by omega
      have hge : decide ((n : Int) ≤ nx) = true := by simpa using q1
      generalize strOfNums l = T at *
      clear hRx hRz hOx hA hA2 hI1 hc1 HHo hHn e9
      go_upto_region 27 with (fail)
      go_quiet (fail)
      go_wp2_with fail
      go_ret
      exact ⟨rfl, hbz.trans (below_drewN (Below.refl _ _) _)⟩
end Go.Proofs.Ytkjaljfoaagfdaa.both
