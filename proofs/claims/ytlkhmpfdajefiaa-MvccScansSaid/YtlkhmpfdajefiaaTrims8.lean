/- What MvccTrims comes to. Conditions: what the operations read as. -/
import Derived.Test.YtlkhmpfdajefiaaFree8
namespace Go.Proofs.Ytlkhmpfdajefiaa.law8
open Go Go.RowKit Go.Proofs.Ytlkhmpfdajefiaa.kit Go.Proofs.Ytlkhmpfdajefiaa.nums Go.Proofs.Ytlkhmpfdajefiaa.st Go.Proofs.Ytlkhmpfdajefiaa.mv Go.Proofs.Ytlkhmpfdajefiaa.ref8
set_option linter.unusedVariables false

theorem ne_pr_self (p : ByteArray × ByteArray) (w : World) : (binOp BinOp.neq 58 (.agg #[.string p.1, .string p.2]) (.agg #[.string p.1, .string p.2])).run Try.prog w = .ok (.bool false) w := by
  obtain ⟨x, y⟩ := p
  go_simp
/-- A scan that is not too long. -/
theorem own_scan' {w wz : World} {base : Nat} {A : Option Addr} {c : Nat} {ds : List CellL} (hO : OwnCs w base (.slice A ds.length c) ds) (h : Below w.heap.size w wz) (hf : Few ds) (hok : okC ds) (lo hi : ByteArray) (t : StL) (ps : List (ByteArray × ByteArray)) (hp : scanF ds lo hi t = ps) :
    Calls Try.prog 22 #[.slice A ds.length c, .agg #[.string lo, .string hi], .agg #[.int .i64 t.wall, .int .i64 t.tie], .int .i64 1000] wz (fun e w' => ∃ A c, e = .returned (.tuple #[.slice A ps.length c, .int .i64 0]) ∧ OwnPs w' wz.heap.size (.slice A ps.length c) ps ∧ Below wz.heap.size wz w') := by
  subst hp
  have hl : (scanF ds lo hi t).length ≤ ds.length := List.length_filterMap_le _ _
  have h2 := hf.1
  refine (own_scan hO h hf hok lo hi t 1000).mono ?_
  rintro e w' ⟨h1 | h1, hB⟩
  · obtain ⟨_, A', c', e1, hP⟩ := h1
    exact ⟨A', c', e1, hP, hB⟩
  · exact absurd (show ((scanF ds lo hi t).length : Int) ≤ max 1000 0 by omega) h1.1
theorem ps_at {w : World} {base : Nat} {A : Option Addr} {n c : Nat} {ps : List (ByteArray × ByteArray)} (h : OwnPs w base (.slice A n c) ps) (hn : ps.length = n) {j : Nat} (hj : j < n) : ∃ g p, A = some ⟨g, 0, none⟩ ∧ base ≤ g ∧ g < w.heap.size ∧ ps[j]? = some p ∧ At w g (j * 2) (prC p) := by
  unfold OwnPs at h
  rw [hn] at h
  rcases h.2 with ⟨hv, h0⟩ | ⟨g, cap, cur, hv, hb, hg, r⟩
  · omega
  · simp only [Value.slice.injEq] at hv
    obtain ⟨rfl, _, rfl⟩ := hv
    have hx : ps[j]? = some ps[j] := List.getElem?_eq_getElem (by omega)
    refine ⟨g, ps[j], rfl, hb, lt_of_block hg, hx, fun i u hu => ?_⟩
    have hi : i < 2 := by have := (List.getElem?_eq_some_iff.1 hu).1; rw [pr_len] at this; exact this
    rw [h.cellAt (j * 2 + i) (by omega), flat_get prC 2 pr_len ps j i _ hx hi]
    exact hu
/-- The later of the two stamps. -/
def laterF (a b : StL) : StL := if lessF a b then b else a
theorem later_not (a b : StL) : lessF (laterF a b) b = false := by
  unfold laterF
  split
  · exact lt_irr b
  · rename_i h; simpa using h
set_option maxRecDepth 100000 in
set_option maxHeartbeats 4000000 in
theorem trims_any (A : Option Addr) (n c : Nat) (os : List OpM) (tb ta : StL) (lo hi : ByteArray) (w : World) (B : Nat) (hR : RdOpM w B A n os) (hB : B ≤ w.heap.size) (hn : n ≤ 9223372036854775807) :
    Calls Try.prog 5 #[.slice A n c, .agg #[.int .i64 tb.wall, .int .i64 tb.tie], .agg #[.int .i64 ta.wall, .int .i64 ta.tie], .agg #[.string lo, .string hi]] w fun e w' => e = .returned (.bool true) ∧ Below w.heap.size w w' := by
  have HLN := Lib.hid hR.1
  have HC := Lib.hid (fun j (hj : j < n) => hR.at_ hj)
  have BG := Lib.hid (fun w => begun_any w)
  have LT := Lib.hid (fun (wq : World) (h : Below w.heap.size w wq) => light_any A n c 60 os wq B (hR.below (h.mono hB)) hn)
  have LS := Lib.hid (fun w => ref6.less_any ta tb w)
  unfold ref6.stV at LS
  have hB0 : Hid (Below w.heap.size w (((w.alloc (.cells #[.int .i64 tb.wall, .int .i64 tb.tie] 24)).alloc (.cells #[.int .i64 ta.wall, .int .i64 ta.tie] 24)).alloc (.cells #[.string lo, .string hi] 26))) := (((Below.refl _ _).alloc (Nat.le_refl _) _).alloc (by simp) _).alloc (by simp; omega) _
  have k0 : Blk 24 (((w.alloc (.cells #[.int .i64 tb.wall, .int .i64 tb.tie] 24)).alloc (.cells #[.int .i64 ta.wall, .int .i64 ta.tie] 24)).alloc (.cells #[.string lo, .string hi] 26)) w.heap.size [.int .i64 tb.wall, .int .i64 tb.tie] := Blk.alloc (Blk.alloc (heap_alloc_new w _) _) _
  have k1 : Blk 24 (((w.alloc (.cells #[.int .i64 tb.wall, .int .i64 tb.tie] 24)).alloc (.cells #[.int .i64 ta.wall, .int .i64 ta.tie] 24)).alloc (.cells #[.string lo, .string hi] 26)) (w.heap.size + 1) [.int .i64 ta.wall, .int .i64 ta.tie] := by
    have := Blk.alloc (E := 24) (cs := [.int .i64 ta.wall, .int .i64 ta.tie]) (heap_alloc_new (w.alloc (.cells #[.int .i64 tb.wall, .int .i64 tb.tie] 24)) _) (.cells #[.string lo, .string hi] 26)
    simpa using this
  have k2 : Blk 26 (((w.alloc (.cells #[.int .i64 tb.wall, .int .i64 tb.tie] 24)).alloc (.cells #[.int .i64 ta.wall, .int .i64 ta.tie] 24)).alloc (.cells #[.string lo, .string hi] 26)) (w.heap.size + 2) [.string lo, .string hi] := by
    have := heap_alloc_new ((w.alloc (.cells #[.int .i64 tb.wall, .int .i64 tb.tie] 24)).alloc (.cells #[.int .i64 ta.wall, .int .i64 ta.tie] 24)) (.cells #[.string lo, .string hi] 26)
    simpa [Blk] using this
  have hsw : w.heap.size + 2 < (((w.alloc (.cells #[.int .i64 tb.wall, .int .i64 tb.tie] 24)).alloc (.cells #[.int .i64 ta.wall, .int .i64 ta.tie] 24)).alloc (.cells #[.string lo, .string hi] 26)).heap.size := k2.lt
  have HK := Lib.hid (fun wq (hq : Below (((w.alloc (.cells #[.int .i64 tb.wall, .int .i64 tb.tie] 24)).alloc (.cells #[.int .i64 ta.wall, .int .i64 ta.tie] 24)).alloc (.cells #[.string lo, .string hi] 26)).heap.size (((w.alloc (.cells #[.int .i64 tb.wall, .int .i64 tb.tie] 24)).alloc (.cells #[.int .i64 ta.wall, .int .i64 ta.tie] 24)).alloc (.cells #[.string lo, .string hi] 26)) wq) => (show Blk 24 wq w.heap.size [.int .i64 tb.wall, .int .i64 tb.tie] ∧ Blk 24 wq (w.heap.size + 1) [.int .i64 ta.wall, .int .i64 ta.tie] ∧ Blk 26 wq (w.heap.size + 2) [.string lo, .string hi] from ⟨k0.below hq (by omega), k1.below hq (by omega), k2.below hq (by omega)⟩))
  have HS : Hid (∀ wq, Below (((w.alloc (.cells #[.int .i64 tb.wall, .int .i64 tb.tie] 24)).alloc (.cells #[.int .i64 ta.wall, .int .i64 ta.tie] 24)).alloc (.cells #[.string lo, .string hi] 26)).heap.size (((w.alloc (.cells #[.int .i64 tb.wall, .int .i64 tb.tie] 24)).alloc (.cells #[.int .i64 ta.wall, .int .i64 ta.tie] 24)).alloc (.cells #[.string lo, .string hi] 26)) wq → wq.cell? ⟨w.heap.size, 0, none⟩ = some (.int .i64 tb.wall) ∧ wq.cell? ⟨w.heap.size, 1, none⟩ = some (.int .i64 tb.tie) ∧ wq.cell? ⟨w.heap.size + 1, 0, none⟩ = some (.int .i64 ta.wall) ∧ wq.cell? ⟨w.heap.size + 1, 1, none⟩ = some (.int .i64 ta.tie) ∧ wq.cell? ⟨w.heap.size + 2, 0, none⟩ = some (.string lo) ∧ wq.cell? ⟨w.heap.size + 2, 1, none⟩ = some (.string hi)) := fun wq hq => by
    obtain ⟨h0, h1, h2⟩ := HK.out wq hq
    exact ⟨h0.cell 0, h0.cell 1, h1.cell 0, h1.cell 1, h2.cell 0, h2.cell 1⟩
  clear k0 k1 k2 hR
  go_enter Try.func5, Try.ntmps5
  go_upto_region 1 with (fail)
  (try rw [show w.heap.size + 1 + 1 = w.heap.size + 2 by omega])
  generalize (((w.alloc (.cells #[.int .i64 tb.wall, .int .i64 tb.tie] 24)).alloc (.cells #[.int .i64 ta.wall, .int .i64 ta.tie] 24)).alloc (.cells #[.string lo, .string hi] 26)) = w1 at *
  go_wp2_with fail
  refine (BG.out _).mono ?_
  rintro e wa ⟨rfl, hBa⟩
  have HBW := Lib.hid (hB0.out.trans (hBa.mono hB0.out.size))
  obtain ⟨s0, s1, s2, s3, s4, s5⟩ := HS.out _ hBa
  go_wp2_with fail
  refine (LT.out _ HBW.out).mono ?_
  rintro e w3 ⟨r, rfl, hr, rfl⟩
  rcases r with _ | _
  · go_wp2_with fail
    go_ret
    exact ⟨rfl, HBW.out⟩
  have HLE : Hid (os.length ≤ 60) := by have := (hr rfl).1; exact Lib.hid (by omega)
  clear hr LT BG
  by_cases g1 : 200 < lo.size
  · go_wp2_with fail
    go_ret
    exact ⟨rfl, HBW.out⟩
  by_cases g2 : 200 < hi.size
  · go_wp2_with fail
    go_ret
    exact ⟨rfl, HBW.out⟩
  go_wp2_with fail
  clear s0 s1 s2 s3 s4 s5 g1 g2
  go_loopw [9, 10] (fun cv iv wr => ∃ (j m : Nat) (A' : Option Addr) (c' : Nat), j ≤ n ∧ iv = .int .i64 j ∧ cv = .slice A' m c' ∧ Hid ((runF (os.take j)).length = m) ∧ OwnCs wr wa.heap.size (.slice A' m c') (runF (os.take j)) ∧ Below wa.heap.size wa wr) (fun _ iv _ => n - (intOf iv).toNat)
  case atStart => exact ⟨0, 0, none, 0, Nat.zero_le _, rfl, rfl, rfl, OwnCs.nil _ _, Below.refl _ _⟩
  case round =>
    obtain ⟨j, m, A', c', hj, rfl, rfl, hm, hO, hBr⟩ := hrel
    have hsr := hBr.size
    by_cases hlt : j < n
    · obtain ⟨b', o, x, rfl, hb, hx, hA⟩ := HC.out j hlt
      have DO := Lib.hid (run_do hx HLE.out hm.out hO (Below.refl wr.heap.size wr))
      have hAr := hA.below hb ((HBW.out.trans (hBr.mono HBW.out.size)).mono hB)
      unfold opC at DO
      obtain ⟨g0, g1, g2, g3, g4, g5, g6, g7, g8, g9, g10, g11, g12, g13⟩ := at14 hAr
      clear hAr hA hx hO hm
      go_wp2_with fail
      refine DO.out.mono ?_
      rintro e w5 ⟨A1, c1, A2, c2, rfl, hO1, hO2, hB5⟩
      go_wp2_with fail
      go_roundw
      case rel => exact ⟨j + 1, _, A1, c1, by omega, by go_num, rfl, rfl, hO1.more hsr, hBr.trans (hB5.mono hsr)⟩
      case measure => simp [intOf]; omega
    · obtain rfl : j = n := by omega
      have hOS : os.take j = os := List.take_of_length_le (by rw [HLN.out]; exact Nat.le_refl _)
      rw [hOS] at hO hm
      clear hOS
      obtain rfl := hm.out
      clear hm
      have HOK := Lib.hid (run_ok os)
      have HFW := Lib.hid (run_few os)
      have HLE' := Lib.hid HLE.out
      have p0 := hBr
      have HS2 : Hid (∀ wq, Below wr.heap.size wr wq → wq.cell? ⟨w.heap.size, 0, none⟩ = some (.int .i64 tb.wall) ∧ wq.cell? ⟨w.heap.size, 1, none⟩ = some (.int .i64 tb.tie) ∧ wq.cell? ⟨w.heap.size + 1, 0, none⟩ = some (.int .i64 ta.wall) ∧ wq.cell? ⟨w.heap.size + 1, 1, none⟩ = some (.int .i64 ta.tie) ∧ wq.cell? ⟨w.heap.size + 2, 0, none⟩ = some (.string lo) ∧ wq.cell? ⟨w.heap.size + 2, 1, none⟩ = some (.string hi)) := fun wq hq => HS.out _ ((hBa.trans (hBr.mono hBa.size)).trans (hq.mono (hBa.trans (hBr.mono hBa.size)).size))
      have HK2 := Lib.hid (fun wq (hq : Below wr.heap.size wr wq) => HK.out _ ((hBa.trans (hBr.mono hBa.size)).trans (hq.mono (hBa.trans (hBr.mono hBa.size)).size)))
      have HBZ := Lib.hid (HBW.out.trans (hBr.mono HBW.out.size))
      have hle := HLE.out
      have FL := few_trim HFW.out tb
      have F0 := Lib.hid (few_of HFW.out (by omega))
      have F1 := Lib.hid (few_of FL (by omega))
      have K1 := Lib.hid (ok_trim HOK.out tb)
      have HLT := Lib.hid (later_not ta tb)
      have HLD : Hid (laterF ta tb = if lessF ta tb then tb else ta) := rfl
      have hwa : w.heap.size + 2 < wa.heap.size := Nat.lt_of_lt_of_le hsw hBa.size
      clear FL hle HC HLE HLN HFW hsw
      generalize runF os = cs at *
      generalize hz : laterF ta tb = tz at *
      clear hz
      have HSC := Lib.hid (scan_trim tb tz HLT.out cs lo hi)
      obtain ⟨s0, s1, s2, s3, s4, s5⟩ := HS2.out _ (Below.refl _ _)
      go_wp2_with fail
      refine (own_trim hO (Below.refl _ _) F0.out HOK.out tb).mono ?_
      rintro e y0 ⟨A1, c1, rfl, hO1, hY0⟩
      have HTT := Lib.hid (trim_trim tb cs)
      generalize trimF tb cs = ds at *
      clear s0 s1 s2 s3 s4 s5
      obtain ⟨s0, s1, s2, s3, s4, s5⟩ := HS2.out _ hY0
      go_wp2_with fail
      refine (LS.out _).mono ?_
      rintro e y1 ⟨rfl, hY1⟩
      have q1 := hY0.trans (hY1.mono hY0.size)
      have hOc := hO.below q1
      have hOd := hO1.below hY1
      obtain ⟨k0, k1, k2⟩ := HK2.out _ q1
      have hBy := HBZ.out.trans (q1.mono HBZ.out.size)
      have hwr := hBr.size
      have hy1 := q1.size
      have hwy := hY0.size
      clear s0 s1 s2 s3 s4 s5 HS HS2 HK HK2 hO hO1 hY0 hY1 hBr LS
      obtain ⟨s0, s1⟩ := blk2 k0
      obtain ⟨s2, s3⟩ := blk2 k1
      have df := fun i => k1.frozen i
      go_upto_if 54 with (fail)
      go_cut [54] from 200 (fun bv wx => bv = .bool (lessF ta tb) ∧ Hid (Blk 24 wx w.heap.size [.int .i64 tb.wall, .int .i64 tb.tie]) ∧ Hid (Blk 24 wx (w.heap.size + 1) [.int .i64 tz.wall, .int .i64 tz.tie]) ∧ Hid (Blk 26 wx (w.heap.size + 2) [.string lo, .string hi]) ∧ OwnCs wx wa.heap.size (.slice A' cs.length c') cs ∧ OwnCs wx wa.heap.size (.slice A1 ds.length c1) ds ∧ Below w.heap.size w wx)
      case first =>
        have hOd' := hOd.more (base' := wa.heap.size) (by omega)
        rcases hl : lessF ta tb with _ | _
        all_goals have HL9 := Lib.hid hl
        · have htz : tz = ta := by rw [HLD.out, hl]; rfl
          rw [← htz] at k1
          clear htz HLD hl
          go_wp2_with fail
          go_meet
          case rel => exact ⟨by rw [HL9.out], k0, k1, k2, hOc, hOd', hBy⟩
        · have htz : tz = tb := by rw [HLD.out, hl]; rfl
          have k1' : Blk 24 ((y1.setCell ⟨w.heap.size + 1, 0, none⟩ (.int .i64 tb.wall)).setCell ⟨w.heap.size + 1, 1, none⟩ (.int .i64 tb.tie)) (w.heap.size + 1) [.int .i64 tz.wall, .int .i64 tz.tie] := by rw [htz]; exact (k1.set_ 0 _).set_ 1 _
          have hh : ∀ q, q ≠ w.heap.size + 1 → ((y1.setCell ⟨w.heap.size + 1, 0, none⟩ (.int .i64 tb.wall)).setCell ⟨w.heap.size + 1, 1, none⟩ (.int .i64 tb.tie)).heap[q]? = y1.heap[q]? := fun q hq => (Below.heap_setCell _ ⟨w.heap.size + 1, 1, none⟩ _ q hq).trans (Below.heap_setCell y1 ⟨w.heap.size + 1, 0, none⟩ _ q hq)
          have k0' : Blk 24 ((y1.setCell ⟨w.heap.size + 1, 0, none⟩ (.int .i64 tb.wall)).setCell ⟨w.heap.size + 1, 1, none⟩ (.int .i64 tb.tie)) w.heap.size [.int .i64 tb.wall, .int .i64 tb.tie] := (hh _ (by omega)).trans k0
          have k2' : Blk 26 ((y1.setCell ⟨w.heap.size + 1, 0, none⟩ (.int .i64 tb.wall)).setCell ⟨w.heap.size + 1, 1, none⟩ (.int .i64 tb.tie)) (w.heap.size + 2) [.string lo, .string hi] := (hh _ (by omega)).trans k2
          have o1 := hOc.keep (w' := (y1.setCell ⟨w.heap.size + 1, 0, none⟩ (.int .i64 tb.wall)).setCell ⟨w.heap.size + 1, 1, none⟩ (.int .i64 tb.tie)) (fun q hq _ => hh q (by omega))
          have o2 := hOd'.keep (w' := (y1.setCell ⟨w.heap.size + 1, 0, none⟩ (.int .i64 tb.wall)).setCell ⟨w.heap.size + 1, 1, none⟩ (.int .i64 tb.tie)) (fun q hq _ => hh q (by omega))
          have b1 : Below w.heap.size w ((y1.setCell ⟨w.heap.size + 1, 0, none⟩ (.int .i64 tb.wall)).setCell ⟨w.heap.size + 1, 1, none⟩ (.int .i64 tb.tie)) := (hBy.setCell (p := ⟨w.heap.size + 1, 0, none⟩) (show w.heap.size ≤ w.heap.size + 1 by omega) _).setCell (p := ⟨w.heap.size + 1, 1, none⟩) (show w.heap.size ≤ w.heap.size + 1 by omega) _
          clear htz HLD hl k0 k1 k2 hOc hOd hOd' hBy hh
          go_wp2_with fail
          go_meet
          case rel => exact ⟨by rw [HL9.out], k0', k1', k2', o1, o2, b1⟩
      case rest =>
        obtain ⟨rfl, k0', k1', k2', o1, o2, b1⟩ := hcut
        obtain ⟨wz, hwz⟩ : ∃ wz, wz = wc := ⟨_, rfl⟩
        subst hwz
        have hwz : w.heap.size + 2 < wz.heap.size := k2'.out.lt
        have HS3 : Hid (∀ wq, Below wz.heap.size wz wq → wq.cell? ⟨w.heap.size, 0, none⟩ = some (.int .i64 tb.wall) ∧ wq.cell? ⟨w.heap.size, 1, none⟩ = some (.int .i64 tb.tie) ∧ wq.cell? ⟨w.heap.size + 1, 0, none⟩ = some (.int .i64 tz.wall) ∧ wq.cell? ⟨w.heap.size + 1, 1, none⟩ = some (.int .i64 tz.tie) ∧ wq.cell? ⟨w.heap.size + 2, 0, none⟩ = some (.string lo) ∧ wq.cell? ⟨w.heap.size + 2, 1, none⟩ = some (.string hi)) := fun wq hq => by
          have h0 := k0'.out.below hq (by omega)
          have h1 := k1'.out.below hq (by omega)
          have h2 := k2'.out.below hq (by omega)
          exact ⟨h0.cell 0, h0.cell 1, h1.cell 0, h1.cell 1, h2.cell 0, h2.cell 1⟩
        clear s0 s1 s2 s3 df k0 k1 k2 hOc hOd hBy k0' k1' k2' HLD HLT hy1 hwy
        obtain ⟨ps, hps⟩ : ∃ ps, scanF cs lo hi tz = ps := ⟨_, rfl⟩
        have hpd : scanF ds lo hi tz = ps := HSC.out.trans hps
        have C1 := Lib.hid (own_scan' o1 (Below.refl _ _) F0.out HOK.out lo hi tz ps hps)
        have C2 := Lib.hid (fun wq (hq : Below wz.heap.size wz wq) => own_scan' o2 hq F1.out K1.out lo hi tz ps hpd)
        clear hps hpd HSC
        obtain ⟨s0, s1, s2, s3, s4, s5⟩ := HS3.out _ (Below.refl _ _)
        go_wp2_with fail
        refine C1.out.mono ?_
        rintro e z1 ⟨P1, d1, rfl, hP1, hZ1⟩
        clear s0 s1 s2 s3 s4 s5 C1
        obtain ⟨s0, s1, s2, s3, s4, s5⟩ := HS3.out _ hZ1
        go_wp2_with fail
        refine (C2.out _ hZ1).mono ?_
        rintro e z2 ⟨P2, d2, rfl, hP2, hZ2⟩
        have r2 := hZ1.trans (hZ2.mono hZ1.size)
        have hP1' := hP1.below hZ2
        clear s0 s1 s2 s3 s4 s5 C2 hP1
        go_wp2_with fail
        refine (own_may o2 r2 F1.out).mono ?_
        rintro e z3 ⟨bb, rfl, hbb, hZ3⟩
        obtain rfl : bb = true := hbb.2 K1.out
        clear hbb
        have r3 := r2.trans (hZ3.mono r2.size)
        have hP1 := hP1'.below hZ3
        have hP2' := hP2.below hZ3
        clear hP1' hP2
        have hNP := fun p w => ne_pr_self p w
        have hpl : ps.length ≤ 9223372036854775807 := by
          have h1 := hP1.2
          rcases h1 with ⟨_, h0⟩ | ⟨g, cap, cur, _, _, _, h1, h2, _⟩
          · omega
          · unfold maxLen at h2; omega
        generalize hn' : ps.length = m at *
        go_wp2_with fail
        go_loopw [16] (fun iv wt => ∃ j : Nat, j ≤ m ∧ iv = .int .i64 j ∧ Below z3.heap.size z3 wt) (fun iv _ => m - (intOf iv).toNat)
        case atStart => exact ⟨0, Nat.zero_le _, rfl, Below.refl _ _⟩
        case round =>
          obtain ⟨i, hi', rfl, hBt⟩ := hrel
          by_cases hlt2 : i < m
          · obtain ⟨g1, p, rfl, _, hg1, hp1, hA1⟩ := ps_at hP1 hn' hlt2
            obtain ⟨g2, p', rfl, _, hg2, hp2, hA2⟩ := ps_at hP2' hn' hlt2
            rw [hp1] at hp2
            obtain rfl := Option.some.inj hp2
            have HA : Hid (∀ wq, Below z3.heap.size z3 wq → wq.cell? ⟨g1, i * 2, none⟩ = some (.string p.1) ∧ wq.cell? ⟨g1, i * 2 + 1, none⟩ = some (.string p.2) ∧ wq.cell? ⟨g2, i * 2, none⟩ = some (.string p.1) ∧ wq.cell? ⟨g2, i * 2 + 1, none⟩ = some (.string p.2)) := fun wq hq => ⟨(hA1.below hg1 hq) 0 _ rfl, (hA1.below hg1 hq) 1 _ rfl, (hA2.below hg2 hq) 0 _ rfl, (hA2.below hg2 hq) 1 _ rfl⟩
            have p0 : Below z3.heap.size z3 wr.drew := hBt.drew
            have hNp := hNP p
            clear hA1 hA2 hp1 hp2
            go_upto_region 20 with (fail)
            refine wp_region_held_drew (S := fun wq => wq.cell? ⟨g1, i * 2, none⟩ = some (.string p.1) ∧ wq.cell? ⟨g1, i * 2 + 1, none⟩ = some (.string p.2) ∧ wq.cell? ⟨g2, i * 2, none⟩ = some (.string p.1) ∧ wq.cell? ⟨g2, i * 2 + 1, none⟩ = some (.string p.2)) (by kernel_rfl) ?s_0 (fun hHeld => ?_)
            case s_0 => exact HA.out _ p0
            refine tk 0 { dst := some 91, op := .move (.tmp 12), type := 53, pos := "law.go:161", after := #[], guard := none } _ ?_
            try simp only [Act.put, List.setIfInBounds_toArray, List.set_cons_zero, List.set_cons_succ]
            refine tk 1 { dst := some 92, op := .move (.tmp 16), type := 3, pos := "law.go:161", after := #[], guard := none } _ ?_
            try simp only [Act.put, List.setIfInBounds_toArray, List.set_cons_zero, List.set_cons_succ]
            refine tk 2 { dst := some 93, op := .indexAddr 53 (.tmp 91) (.tmp 92), type := 0, pos := "law.go:161", after := #[{ on := 0, ground := .data }, { on := 1, ground := .data }], guard := none } _ ?_
            try simp only [Act.put, List.setIfInBounds_toArray, List.set_cons_zero, List.set_cons_succ]
            refine tk 3 { dst := some 94, op := .load 58 (.tmp 93), type := 58, pos := "law.go:161", after := #[{ on := 2, ground := .data }], guard := none } _ ?_
            try simp only [Act.put, List.setIfInBounds_toArray, List.set_cons_zero, List.set_cons_succ]
            refine tk 4 { dst := some 95, op := .move (.tmp 14), type := 53, pos := "law.go:161", after := #[], guard := none } _ ?_
            try simp only [Act.put, List.setIfInBounds_toArray, List.set_cons_zero, List.set_cons_succ]
            refine tk 5 { dst := some 96, op := .move (.tmp 16), type := 3, pos := "law.go:161", after := #[], guard := none } _ ?_
            try simp only [Act.put, List.setIfInBounds_toArray, List.set_cons_zero, List.set_cons_succ]
            refine tk 6 { dst := some 97, op := .indexAddr 53 (.tmp 95) (.tmp 96), type := 0, pos := "law.go:161", after := #[{ on := 4, ground := .data }, { on := 5, ground := .data }], guard := none } _ ?_
            try simp only [Act.put, List.setIfInBounds_toArray, List.set_cons_zero, List.set_cons_succ]
            refine tk 7 { dst := some 98, op := .load 58 (.tmp 97), type := 58, pos := "law.go:161", after := #[{ on := 6, ground := .data }], guard := none } _ ?_
            try simp only [Act.put, List.setIfInBounds_toArray, List.set_cons_zero, List.set_cons_succ]
            refine tk 8 { dst := some 99, op := .binOp .neq 58 (.tmp 94) (.tmp 98) 58, type := 4, pos := "law.go:161", after := #[{ on := 3, ground := .data }, { on := 7, ground := .data }], guard := none } _ ?_
            try simp only [Act.put, List.setIfInBounds_toArray, List.set_cons_zero, List.set_cons_succ]
            refine wpAnyH_done (by kernel_rfl) ?_ _
            go_wp2_with fail
            go_roundw
            case rel => exact ⟨i + 1, by omega, by go_num, p0⟩
            case measure => simp [intOf]; omega
          · obtain rfl : i = m := by omega
            have r4 := r3.trans (hBt.mono r3.size)
            obtain ⟨s0, s1, s2, s3, s4, s5⟩ := HS3.out _ r4
            go_wp2_with fail
            refine (own_trim o2 r4 F1.out K1.out tb).mono ?_
            rintro e z5 ⟨A5, c5, rfl, hO5, hZ5⟩
            have r5 := r4.trans (hZ5.mono r4.size)
            rw [HTT.out] at hO5 ⊢
            go_wp2_with fail
            have hsm := own_same hO5 (Below.refl _ _) F1.out o2 r5 F1.out
            rw [decide_eq_true rfl] at hsm
            refine hsm.mono ?_
            rintro e z6 ⟨rfl, hZ6⟩
            have r6 := r5.trans (hZ6.mono r5.size)
            clear hsm
            go_wp2_with fail
            go_ret
            exact ⟨rfl, b1.trans (r6.mono b1.size)⟩
end Go.Proofs.Ytlkhmpfdajefiaa.law8
