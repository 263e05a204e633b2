/- What MvccFree comes to. Conditions: what the operations read as. -/
import Derived.Test.YtlkhmpfdajefiaaApart8
namespace Go.Proofs.Ytlkhmpfdajefiaa.law8
open Go Go.RowKit Go.Proofs.Ytlkhmpfdajefiaa.kit Go.Proofs.Ytlkhmpfdajefiaa.nums Go.Proofs.Ytlkhmpfdajefiaa.st Go.Proofs.Ytlkhmpfdajefiaa.mv Go.Proofs.Ytlkhmpfdajefiaa.ref8
set_option linter.unusedVariables false

theorem ne_tr_self (a : TrL) (w : World) : (binOp BinOp.neq 28 (.agg #[.int .i64 a.node, .int .i64 a.life, .int .i64 a.seq, .int .i64 a.att]) (.agg #[.int .i64 a.node, .int .i64 a.life, .int .i64 a.seq, .int .i64 a.att])).run Try.prog w = .ok (.bool false) w := by
  obtain ⟨p, q, r, s⟩ := a
  go_simp
theorem own_held2 {w wz : World} {base : Nat} {A : Option Addr} {c : Nat} {ds : List CellL} (hO : OwnCs w base (.slice A ds.length c) ds) (hq : Below w.heap.size w wz) (hf : Few ds) (hok : okC ds) (k : ByteArray) (dr : Bool) (dd : ByteArray) (l : LockL) (hr : heldF ds k = some { l with drop := dr, data := dd }) :
    Calls Try.prog 27 #[.slice A ds.length c, .string k] wz (fun e w' => e = .returned (.tuple #[.agg #[.int .i64 l.by_.node, .int .i64 l.by_.life, .int .i64 l.by_.seq, .int .i64 l.by_.att, .int .i64 l.home, .int .i64 l.at_.wall, .int .i64 l.at_.tie, .bool dr, .string dd], .bool true]) ∧ Below wz.heap.size wz w') := by
  have := own_held hO hq hf hok k
  rw [hr] at this
  unfold lkV lockC at this
  exact this
set_option maxRecDepth 100000 in
set_option maxHeartbeats 4000000 in
theorem free_any (A : Option Addr) (n c : Nat) (os : List OpM) (ky : ByteArray) (dr : Bool) (da : ByteArray) (l : LockL) (w : World) (B : Nat) (hR : RdOpM w B A n os) (hB : B ≤ w.heap.size) (hn : n ≤ 9223372036854775807) :
    Calls Try.prog 10 #[.slice A n c, .agg #[.string ky, .bool dr, .string da], .agg #[.int .i64 l.by_.node, .int .i64 l.by_.life, .int .i64 l.by_.seq, .int .i64 l.by_.att, .int .i64 l.home, .int .i64 l.at_.wall, .int .i64 l.at_.tie, .bool l.drop, .string l.data]] w fun e w' => e = .returned (.bool true) ∧ Below w.heap.size w w' := by
  have HLN := Lib.hid hR.1
  have HC := Lib.hid (fun j (hj : j < n) => hR.at_ hj)
  have BG := Lib.hid (fun w => begun_any w)
  have LT := Lib.hid (fun (wq : World) (h : Below w.heap.size w wq) => light_any A n c 40 os wq B (hR.below (h.mono hB)) hn)
  have hE1 := fun w => ne_tr_self l.by_ w
  have hE2 := fun w => ne_st l.at_ l.at_ w
  simp only [decide_true, Bool.not_true] at hE2
  have hB0 : Hid (Below w.heap.size w ((w.alloc (.cells #[.string ky, .bool dr, .string da] 36)).alloc (.cells #[.int .i64 l.by_.node, .int .i64 l.by_.life, .int .i64 l.by_.seq, .int .i64 l.by_.att, .int .i64 l.home, .int .i64 l.at_.wall, .int .i64 l.at_.tie, .bool l.drop, .string l.data] 38))) := ((Below.refl _ _).alloc (Nat.le_refl _) _).alloc (by simp) _
  have k0 : Blk 36 ((w.alloc (.cells #[.string ky, .bool dr, .string da] 36)).alloc (.cells #[.int .i64 l.by_.node, .int .i64 l.by_.life, .int .i64 l.by_.seq, .int .i64 l.by_.att, .int .i64 l.home, .int .i64 l.at_.wall, .int .i64 l.at_.tie, .bool l.drop, .string l.data] 38)) w.heap.size [.string ky, .bool dr, .string da] := Blk.alloc (heap_alloc_new w _) _
  have k1 : Blk 38 ((w.alloc (.cells #[.string ky, .bool dr, .string da] 36)).alloc (.cells #[.int .i64 l.by_.node, .int .i64 l.by_.life, .int .i64 l.by_.seq, .int .i64 l.by_.att, .int .i64 l.home, .int .i64 l.at_.wall, .int .i64 l.at_.tie, .bool l.drop, .string l.data] 38)) (w.heap.size + 1) [.int .i64 l.by_.node, .int .i64 l.by_.life, .int .i64 l.by_.seq, .int .i64 l.by_.att, .int .i64 l.home, .int .i64 l.at_.wall, .int .i64 l.at_.tie, .bool l.drop, .string l.data] := by
    have := heap_alloc_new (w.alloc (.cells #[.string ky, .bool dr, .string da] 36)) (.cells #[.int .i64 l.by_.node, .int .i64 l.by_.life, .int .i64 l.by_.seq, .int .i64 l.by_.att, .int .i64 l.home, .int .i64 l.at_.wall, .int .i64 l.at_.tie, .bool l.drop, .string l.data] 38)
    simpa [Blk] using this
  have HS : Hid (∀ wq, Below ((w.alloc (.cells #[.string ky, .bool dr, .string da] 36)).alloc (.cells #[.int .i64 l.by_.node, .int .i64 l.by_.life, .int .i64 l.by_.seq, .int .i64 l.by_.att, .int .i64 l.home, .int .i64 l.at_.wall, .int .i64 l.at_.tie, .bool l.drop, .string l.data] 38)).heap.size ((w.alloc (.cells #[.string ky, .bool dr, .string da] 36)).alloc (.cells #[.int .i64 l.by_.node, .int .i64 l.by_.life, .int .i64 l.by_.seq, .int .i64 l.by_.att, .int .i64 l.home, .int .i64 l.at_.wall, .int .i64 l.at_.tie, .bool l.drop, .string l.data] 38)) wq → wq.cell? ⟨w.heap.size, 0, none⟩ = some (.string ky) ∧ wq.cell? ⟨w.heap.size, 1, none⟩ = some (.bool dr) ∧ wq.cell? ⟨w.heap.size, 2, none⟩ = some (.string da) ∧ wq.cell? ⟨w.heap.size + 1, 0, none⟩ = some (.int .i64 l.by_.node) ∧ wq.cell? ⟨w.heap.size + 1, 1, none⟩ = some (.int .i64 l.by_.life) ∧ wq.cell? ⟨w.heap.size + 1, 2, none⟩ = some (.int .i64 l.by_.seq) ∧ wq.cell? ⟨w.heap.size + 1, 3, none⟩ = some (.int .i64 l.by_.att) ∧ wq.cell? ⟨w.heap.size + 1, 4, none⟩ = some (.int .i64 l.home) ∧ wq.cell? ⟨w.heap.size + 1, 5, none⟩ = some (.int .i64 l.at_.wall) ∧ wq.cell? ⟨w.heap.size + 1, 6, none⟩ = some (.int .i64 l.at_.tie) ∧ wq.cell? ⟨w.heap.size + 1, 7, none⟩ = some (.bool l.drop) ∧ wq.cell? ⟨w.heap.size + 1, 8, none⟩ = some (.string l.data)) := fun wq hq => by
    have h0 := k0.below hq k0.lt
    have h1 := k1.below hq k1.lt
    exact ⟨h0.cell 0, h0.cell 1, h0.cell 2, h1.cell 0, h1.cell 1, h1.cell 2, h1.cell 3, h1.cell 4, h1.cell 5, h1.cell 6, h1.cell 7, h1.cell 8⟩
  clear k0 k1 hR
  go_enter Try.func10, Try.ntmps10
  go_upto_region 1 with (fail)
  generalize ((w.alloc (.cells #[.string ky, .bool dr, .string da] 36)).alloc (.cells #[.int .i64 l.by_.node, .int .i64 l.by_.life, .int .i64 l.by_.seq, .int .i64 l.by_.att, .int .i64 l.home, .int .i64 l.at_.wall, .int .i64 l.at_.tie, .bool l.drop, .string l.data] 38)) = w1 at *
  go_wp2_with fail
  refine (BG.out _).mono ?_
  rintro e wa ⟨rfl, hBa⟩
  have HBW := Lib.hid (hB0.out.trans (hBa.mono hB0.out.size))
  obtain ⟨s0, s1, s2, s3, s4, s5, s6, s7, s8, s9, s10, s11⟩ := HS.out _ hBa
  go_wp2_with fail
  refine (LT.out _ HBW.out).mono ?_
  rintro e w3 ⟨r, rfl, hr, rfl⟩
  rcases r with _ | _
  · go_wp2_with fail
    go_ret
    exact ⟨rfl, HBW.out⟩
  have HLE : Hid (os.length ≤ 60) := by have := (hr rfl).1; exact Lib.hid (by omega)
  clear hr LT BG
  by_cases g1 : 50 < ky.size
  · go_wp2_with fail
    go_ret
    exact ⟨rfl, HBW.out⟩
  by_cases g2 : 200 < da.size
  · go_wp2_with fail
    go_ret
    exact ⟨rfl, HBW.out⟩
  go_wp2_with fail
  clear s0 s1 s2 s3 s4 s5 s6 s7 s8 s9 s10 s11 g1 g2
  go_loopw [7, 8] (fun cv iv wr => ∃ (j m : Nat) (A' : Option Addr) (c' : Nat), j ≤ n ∧ iv = .int .i64 j ∧ cv = .slice A' m c' ∧ Hid ((runF (os.take j)).length = m) ∧ OwnCs wr wa.heap.size (.slice A' m c') (runF (os.take j)) ∧ Below wa.heap.size wa wr) (fun _ iv _ => n - (intOf iv).toNat)
  case atStart => exact ⟨0, 0, none, 0, Nat.zero_le _, rfl, rfl, rfl, OwnCs.nil _ _, Below.refl _ _⟩
  case round =>
    obtain ⟨j, m, A', c', hj, rfl, rfl, hm, hO, hBr⟩ := hrel
    have hsr := hBr.size
    by_cases hlt : j < n
    · obtain ⟨b', o, x, rfl, hb, hx, hA⟩ := HC.out j hlt
      have DO := Lib.hid (run_do hx HLE.out hm.out hO (Below.refl wr.heap.size wr))
      have hAr := hA.below hb ((HBW.out.trans (hBr.mono HBW.out.size)).mono hB)
      unfold opC at DO
      obtain ⟨g0, g1, g2, g3, g4, g5, g6, g7, g8, g9, g10, g11, g12, g13⟩ := at14 hAr
      clear hAr hA hx hO hm
      go_wp2_with fail
      refine DO.out.mono ?_
      rintro e w5 ⟨A1, c1, A2, c2, rfl, hO1, hO2, hB5⟩
      go_wp2_with fail
      go_roundw
      case rel => exact ⟨j + 1, _, A1, c1, by omega, by go_num, rfl, rfl, hO1.more hsr, hBr.trans (hB5.mono hsr)⟩
      case measure => simp [intOf]; omega
    · obtain rfl : j = n := by omega
      have hOS : os.take j = os := List.take_of_length_le (by rw [HLN.out]; exact Nat.le_refl _)
      rw [hOS] at hO hm
      clear hOS
      obtain rfl := hm.out
      clear hm
      have HOK := Lib.hid (run_ok os)
      have HFW := Lib.hid (run_few os)
      have HLE' := Lib.hid HLE.out
      have p0 := hBr
      have HS2 : Hid (∀ wq, Below wr.heap.size wr wq → wq.cell? ⟨w.heap.size, 0, none⟩ = some (.string ky) ∧ wq.cell? ⟨w.heap.size, 1, none⟩ = some (.bool dr) ∧ wq.cell? ⟨w.heap.size, 2, none⟩ = some (.string da) ∧ wq.cell? ⟨w.heap.size + 1, 0, none⟩ = some (.int .i64 l.by_.node) ∧ wq.cell? ⟨w.heap.size + 1, 1, none⟩ = some (.int .i64 l.by_.life) ∧ wq.cell? ⟨w.heap.size + 1, 2, none⟩ = some (.int .i64 l.by_.seq) ∧ wq.cell? ⟨w.heap.size + 1, 3, none⟩ = some (.int .i64 l.by_.att) ∧ wq.cell? ⟨w.heap.size + 1, 4, none⟩ = some (.int .i64 l.home) ∧ wq.cell? ⟨w.heap.size + 1, 5, none⟩ = some (.int .i64 l.at_.wall) ∧ wq.cell? ⟨w.heap.size + 1, 6, none⟩ = some (.int .i64 l.at_.tie) ∧ wq.cell? ⟨w.heap.size + 1, 7, none⟩ = some (.bool l.drop) ∧ wq.cell? ⟨w.heap.size + 1, 8, none⟩ = some (.string l.data)) := fun wq hq => HS.out _ ((hBa.trans (hBr.mono hBa.size)).trans (hq.mono (hBa.trans (hBr.mono hBa.size)).size))
      have HBZ := Lib.hid (HBW.out.trans (hBr.mono HBW.out.size))
      have hle := HLE.out
      have FL := few_lock HFW.out ky (lockOf dr da l)
      have F0 := Lib.hid (few_of HFW.out (by omega))
      have F1 := Lib.hid (few_of FL (by omega))
      have K1 := Lib.hid (ok_lock ky (lockOf dr da l) (lockOf_text dr da l) _ HOK.out)
      have HFR := Lib.hid (fun hh hm => freed HOK.out ky (lockOf dr da l) hh hm)
      obtain ⟨dd, hdd⟩ : ∃ dd, dd = (if dr then noText else da) := ⟨_, rfl⟩
      have HL2 : heldF (lockF ky (lockOf dr da l) (runF os)) ky = some { l with drop := dr, data := dd } := by rw [held_lock HOK.out, hdd]; rfl
      clear hdd FL hle HC HLE HLN HFW
      generalize runF os = cs at *
      obtain ⟨r, hr⟩ : ∃ r, heldF cs ky = r := ⟨_, rfl⟩
      obtain ⟨h, hh⟩ : ∃ h, r.getD zeroL = h := ⟨_, rfl⟩
      have HH1 := Lib.hid (own_held' hO (Below.refl _ _) F0.out HOK.out ky r hr h hh)
      clear hh
      obtain ⟨s0, s1, s2, s3, s4, s5, s6, s7, s8, s9, s10, s11⟩ := HS2.out _ (Below.refl _ _)
      go_wp2_with fail
      refine HH1.out.mono ?_
      rintro e y0 ⟨rfl, hY0⟩
      have q0a := hY0.alloc hY0.size (.cells #[.int .i64 h.by_.node, .int .i64 h.by_.life, .int .i64 h.by_.seq, .int .i64 h.by_.att, .int .i64 h.home, .int .i64 h.at_.wall, .int .i64 h.at_.tie, .bool h.drop, .string h.data] 38)
      clear s0 s1 s2 s3 s4 s5 s6 s7 s8 s9 s10 s11 HH1
      go_upto_region 11 with (fail)
      generalize (y0.alloc (.cells #[.int .i64 h.by_.node, .int .i64 h.by_.life, .int .i64 h.by_.seq, .int .i64 h.by_.att, .int .i64 h.home, .int .i64 h.at_.wall, .int .i64 h.at_.tie, .bool h.drop, .string h.data] 38)) = z0 at *
      obtain ⟨s0, s1, s2, s3, s4, s5, s6, s7, s8, s9, s10, s11⟩ := HS2.out _ q0a
      go_wp2_with fail
      refine (own_lock hO q0a F0.out HOK.out ky dr da l).mono ?_
      rintro e y1 ⟨A1, c1, rfl, hO1, hY1⟩
      have q1 := q0a.trans (hY1.mono q0a.size)
      have HH2 := Lib.hid (own_held2 hO1 (Below.refl _ _) F1.out K1.out ky dr dd l HL2)
      have HMAY := Lib.hid (fun wz (hq : Below y1.heap.size y1 wz) => own_may hO1 hq F1.out)
      have HSET := Lib.hid (fun wz (hq : Below y1.heap.size y1 wz) => own_settle hO1 hq F1.out K1.out l.by_ false)
      have K1' := K1
      clear HL2 s0 s1 s2 s3 s4 s5 s6 s7 s8 s9 s10 s11
      generalize lockF ky (lockOf dr da l) cs = es at *
      obtain ⟨s0, s1, s2, s3, s4, s5, s6, s7, s8, s9, s10, s11⟩ := HS2.out _ q1
      go_wp2_with fail
      refine HH2.out.mono ?_
      rintro e y2 ⟨rfl, hY2⟩
      have q2 := q1.trans (hY2.mono q1.size)
      have kn : Blk 38 (y2.alloc (.cells #[.int .i64 l.by_.node, .int .i64 l.by_.life, .int .i64 l.by_.seq, .int .i64 l.by_.att, .int .i64 l.home, .int .i64 l.at_.wall, .int .i64 l.at_.tie, .bool dr, .string dd] 38)) y2.heap.size [.int .i64 l.by_.node, .int .i64 l.by_.life, .int .i64 l.by_.seq, .int .i64 l.by_.att, .int .i64 l.home, .int .i64 l.at_.wall, .int .i64 l.at_.tie, .bool dr, .string dd] := heap_alloc_new y2 _
      have q2a := q2.alloc q2.size (.cells #[.int .i64 l.by_.node, .int .i64 l.by_.life, .int .i64 l.by_.seq, .int .i64 l.by_.att, .int .i64 l.home, .int .i64 l.at_.wall, .int .i64 l.at_.tie, .bool dr, .string dd] 38)
      have hY2a := hY2.alloc hY2.size (.cells #[.int .i64 l.by_.node, .int .i64 l.by_.life, .int .i64 l.by_.seq, .int .i64 l.by_.att, .int .i64 l.home, .int .i64 l.at_.wall, .int .i64 l.at_.tie, .bool dr, .string dd] 38)
      clear s0 s1 s2 s3 s4 s5 s6 s7 s8 s9 s10 s11 HH2
      go_upto_region 13 with (fail)
      obtain ⟨g2, hg2⟩ : ∃ g2, y2.heap.size = g2 := ⟨_, rfl⟩
      rw [hg2] at kn ⊢
      generalize (y2.alloc (.cells #[.int .i64 l.by_.node, .int .i64 l.by_.life, .int .i64 l.by_.seq, .int .i64 l.by_.att, .int .i64 l.home, .int .i64 l.at_.wall, .int .i64 l.at_.tie, .bool dr, .string dd] 38)) = z2 at *
      obtain ⟨v0, v1, v2, v3, v4, v5, v6, v7, v8⟩ := blk9 kn
      obtain ⟨s0, s1, s2, s3, s4, s5, s6, s7, s8, s9, s10, s11⟩ := HS2.out _ q2a
      go_wp2_with fail
      refine (HMAY.out _ hY2a).mono ?_
      rintro e y3 ⟨bb, rfl, hbb, hY3⟩
      obtain rfl : bb = true := hbb.2 K1.out
      have q3 := q2a.trans (hY3.mono q2a.size)
      have hY13 := hY2a.trans (hY3.mono hY2a.size)
      clear s0 s1 s2 s3 s4 s5 s6 s7 s8 s9 s10 s11 v0 v1 v2 v3 v4 v5 v6 v7 v8 kn hE1 hE2 hbb
      obtain ⟨s0, s1, s2, s3, s4, s5, s6, s7, s8, s9, s10, s11⟩ := HS2.out _ q3
      rcases (show (∃ h', r = some h') ∨ r = none by cases r <;> simp) with ⟨h', rfl⟩ | rfl
      · go_wp2_with fail
        go_ret
        exact ⟨rfl, HBZ.out.trans (q3.mono HBZ.out.size)⟩
      go_wp2_with fail
      refine (own_mine hO q3 F0.out HOK.out l.by_).mono ?_
      rintro e y4 ⟨rfl, hY4⟩
      have q4 := q3.trans (hY4.mono q3.size)
      have hY14 := hY13.trans (hY4.mono hY13.size)
      by_cases hm : mineF cs l.by_ = true
      · rw [hm]
        clear hm
        go_wp2_with fail
        go_ret
        exact ⟨rfl, HBZ.out.trans (q4.mono HBZ.out.size)⟩
      have hm' : mineF cs l.by_ = false := by simpa using hm
      have HFE : Hid (settleF l.by_ false es = cs) := HFR.out hr hm'
      rw [hm']
      clear hm hm' HFR hr s0 s1 s2 s3 s4 s5 s6 s7 s8 s9 s10 s11
      obtain ⟨s0, s1, s2, s3, s4, s5, s6, s7, s8, s9, s10, s11⟩ := HS2.out _ q4
      go_wp2_with fail
      have hs := HSET.out _ hY14
      rw [HFE.out] at hs
      refine hs.mono ?_
      rintro e y5 ⟨A5, c5, rfl, hO5, hY5⟩
      have q5 := q4.trans (hY5.mono q4.size)
      clear hs
      go_wp2_with fail
      have hsm := own_same hO5 (Below.refl _ _) F0.out hO q5 F0.out
      rw [decide_eq_true rfl] at hsm
      refine hsm.mono ?_
      rintro e y6 ⟨rfl, hY6⟩
      have q6 := q5.trans (hY6.mono q5.size)
      clear hsm
      go_wp2_with fail
      go_ret
      exact ⟨rfl, HBZ.out.trans (q6.mono HBZ.out.size)⟩
end Go.Proofs.Ytlkhmpfdajefiaa.law8
