/- What MvccApart comes to. Conditions: what the operations read as. -/
import Derived.Test.YtlkhmpfdajefiaaPast8
import Derived.Test.YtlkhmpfdajefiaaJoin1
namespace Go.Proofs.Ytlkhmpfdajefiaa.law8
open Go Go.RowKit Go.Proofs.Ytlkhmpfdajefiaa.kit Go.Proofs.Ytlkhmpfdajefiaa.nums Go.Proofs.Ytlkhmpfdajefiaa.st Go.Proofs.Ytlkhmpfdajefiaa.mv Go.Proofs.Ytlkhmpfdajefiaa.ref8
set_option linter.unusedVariables false

theorem eq_lk_self (a : LockL) (w : World) : (binOp BinOp.eql 38 (.agg #[.int .i64 a.by_.node, .int .i64 a.by_.life, .int .i64 a.by_.seq, .int .i64 a.by_.att, .int .i64 a.home, .int .i64 a.at_.wall, .int .i64 a.at_.tie, .bool a.drop, .string a.data]) (.agg #[.int .i64 a.by_.node, .int .i64 a.by_.life, .int .i64 a.by_.seq, .int .i64 a.by_.att, .int .i64 a.home, .int .i64 a.at_.wall, .int .i64 a.at_.tie, .bool a.drop, .string a.data])).run Try.prog w = .ok (.bool true) w := by
  obtain ⟨⟨p, q, r, s⟩, t, ⟨u, v⟩, x, y⟩ := a
  go_simp
theorem own_held' {w wz : World} {base : Nat} {A : Option Addr} {c : Nat} {ds : List CellL} (hO : OwnCs w base (.slice A ds.length c) ds) (hq : Below w.heap.size w wz) (hf : Few ds) (hok : okC ds) (k : ByteArray) (r : Option LockL) (hr : heldF ds k = r) (h : LockL) (hh : r.getD zeroL = h) :
    Calls Try.prog 27 #[.slice A ds.length c, .string k] wz (fun e w' => e = .returned (.tuple #[.agg #[.int .i64 h.by_.node, .int .i64 h.by_.life, .int .i64 h.by_.seq, .int .i64 h.by_.att, .int .i64 h.home, .int .i64 h.at_.wall, .int .i64 h.at_.tie, .bool h.drop, .string h.data], .bool r.isSome]) ∧ Below wz.heap.size wz w') := by
  have := own_held hO hq hf hok k
  rw [hr] at this
  unfold lkV lockC at this
  rw [hh] at this
  exact this
set_option maxRecDepth 100000 in
set_option maxHeartbeats 4000000 in
theorem apart_any (A : Option Addr) (n c : Nat) (os : List OpM) (ky : ByteArray) (dr : Bool) (da : ByteArray) (l : LockL) (yes : Bool) (kk : ByteArray) (t : StL) (w : World) (B : Nat) (hR : RdOpM w B A n os) (hB : B ≤ w.heap.size) (hn : n ≤ 9223372036854775807) :
    Calls Try.prog 7 #[.slice A n c, .agg #[.string ky, .bool dr, .string da], .agg #[.int .i64 l.by_.node, .int .i64 l.by_.life, .int .i64 l.by_.seq, .int .i64 l.by_.att, .int .i64 l.home, .int .i64 l.at_.wall, .int .i64 l.at_.tie, .bool l.drop, .string l.data], .bool yes, .string kk, .agg #[.int .i64 t.wall, .int .i64 t.tie]] w fun e w' => e = .returned (.bool true) ∧ Below w.heap.size w w' := by
  have HLN := Lib.hid hR.1
  have HC := Lib.hid (fun j (hj : j < n) => hR.at_ hj)
  have BG := Lib.hid (fun w => begun_any w)
  have LT := Lib.hid (fun (wq : World) (h : Below w.heap.size w wq) => light_any A n c 40 os wq B (hR.below (h.mono hB)) hn)
  have hte := text_eq kk ky
  have hEq := fun a w => eq_lk_self a w
  have hB0 : Hid (Below w.heap.size w (((w.alloc (.cells #[.string ky, .bool dr, .string da] 36)).alloc (.cells #[.int .i64 l.by_.node, .int .i64 l.by_.life, .int .i64 l.by_.seq, .int .i64 l.by_.att, .int .i64 l.home, .int .i64 l.at_.wall, .int .i64 l.at_.tie, .bool l.drop, .string l.data] 38)).alloc (.cells #[.int .i64 t.wall, .int .i64 t.tie] 24))) := (((Below.refl _ _).alloc (Nat.le_refl _) _).alloc (by simp) _).alloc (by simp; omega) _
  have k0 : Blk 36 (((w.alloc (.cells #[.string ky, .bool dr, .string da] 36)).alloc (.cells #[.int .i64 l.by_.node, .int .i64 l.by_.life, .int .i64 l.by_.seq, .int .i64 l.by_.att, .int .i64 l.home, .int .i64 l.at_.wall, .int .i64 l.at_.tie, .bool l.drop, .string l.data] 38)).alloc (.cells #[.int .i64 t.wall, .int .i64 t.tie] 24)) w.heap.size [.string ky, .bool dr, .string da] := Blk.alloc (Blk.alloc (heap_alloc_new w _) _) _
  have k1 : Blk 38 (((w.alloc (.cells #[.string ky, .bool dr, .string da] 36)).alloc (.cells #[.int .i64 l.by_.node, .int .i64 l.by_.life, .int .i64 l.by_.seq, .int .i64 l.by_.att, .int .i64 l.home, .int .i64 l.at_.wall, .int .i64 l.at_.tie, .bool l.drop, .string l.data] 38)).alloc (.cells #[.int .i64 t.wall, .int .i64 t.tie] 24)) (w.heap.size + 1) [.int .i64 l.by_.node, .int .i64 l.by_.life, .int .i64 l.by_.seq, .int .i64 l.by_.att, .int .i64 l.home, .int .i64 l.at_.wall, .int .i64 l.at_.tie, .bool l.drop, .string l.data] := by
    have := Blk.alloc (E := 38) (cs := [.int .i64 l.by_.node, .int .i64 l.by_.life, .int .i64 l.by_.seq, .int .i64 l.by_.att, .int .i64 l.home, .int .i64 l.at_.wall, .int .i64 l.at_.tie, .bool l.drop, .string l.data]) (heap_alloc_new (w.alloc (.cells #[.string ky, .bool dr, .string da] 36)) _) (.cells #[.int .i64 t.wall, .int .i64 t.tie] 24)
    simpa using this
  have k2 : Blk 24 (((w.alloc (.cells #[.string ky, .bool dr, .string da] 36)).alloc (.cells #[.int .i64 l.by_.node, .int .i64 l.by_.life, .int .i64 l.by_.seq, .int .i64 l.by_.att, .int .i64 l.home, .int .i64 l.at_.wall, .int .i64 l.at_.tie, .bool l.drop, .string l.data] 38)).alloc (.cells #[.int .i64 t.wall, .int .i64 t.tie] 24)) (w.heap.size + 2) [.int .i64 t.wall, .int .i64 t.tie] := by
    have := heap_alloc_new ((w.alloc (.cells #[.string ky, .bool dr, .string da] 36)).alloc (.cells #[.int .i64 l.by_.node, .int .i64 l.by_.life, .int .i64 l.by_.seq, .int .i64 l.by_.att, .int .i64 l.home, .int .i64 l.at_.wall, .int .i64 l.at_.tie, .bool l.drop, .string l.data] 38)) (.cells #[.int .i64 t.wall, .int .i64 t.tie] 24)
    simpa [Blk] using this
  have HS : Hid (∀ wq, Below (((w.alloc (.cells #[.string ky, .bool dr, .string da] 36)).alloc (.cells #[.int .i64 l.by_.node, .int .i64 l.by_.life, .int .i64 l.by_.seq, .int .i64 l.by_.att, .int .i64 l.home, .int .i64 l.at_.wall, .int .i64 l.at_.tie, .bool l.drop, .string l.data] 38)).alloc (.cells #[.int .i64 t.wall, .int .i64 t.tie] 24)).heap.size (((w.alloc (.cells #[.string ky, .bool dr, .string da] 36)).alloc (.cells #[.int .i64 l.by_.node, .int .i64 l.by_.life, .int .i64 l.by_.seq, .int .i64 l.by_.att, .int .i64 l.home, .int .i64 l.at_.wall, .int .i64 l.at_.tie, .bool l.drop, .string l.data] 38)).alloc (.cells #[.int .i64 t.wall, .int .i64 t.tie] 24)) wq → wq.cell? ⟨w.heap.size, 0, none⟩ = some (.string ky) ∧ wq.cell? ⟨w.heap.size, 1, none⟩ = some (.bool dr) ∧ wq.cell? ⟨w.heap.size, 2, none⟩ = some (.string da) ∧ wq.cell? ⟨w.heap.size + 1, 0, none⟩ = some (.int .i64 l.by_.node) ∧ wq.cell? ⟨w.heap.size + 1, 1, none⟩ = some (.int .i64 l.by_.life) ∧ wq.cell? ⟨w.heap.size + 1, 2, none⟩ = some (.int .i64 l.by_.seq) ∧ wq.cell? ⟨w.heap.size + 1, 3, none⟩ = some (.int .i64 l.by_.att) ∧ wq.cell? ⟨w.heap.size + 1, 4, none⟩ = some (.int .i64 l.home) ∧ wq.cell? ⟨w.heap.size + 1, 5, none⟩ = some (.int .i64 l.at_.wall) ∧ wq.cell? ⟨w.heap.size + 1, 6, none⟩ = some (.int .i64 l.at_.tie) ∧ wq.cell? ⟨w.heap.size + 1, 7, none⟩ = some (.bool l.drop) ∧ wq.cell? ⟨w.heap.size + 1, 8, none⟩ = some (.string l.data) ∧ wq.cell? ⟨w.heap.size + 2, 0, none⟩ = some (.int .i64 t.wall) ∧ wq.cell? ⟨w.heap.size + 2, 1, none⟩ = some (.int .i64 t.tie)) := fun wq hq => by
    have h0 := k0.below hq k0.lt
    have h1 := k1.below hq k1.lt
    have h2 := k2.below hq k2.lt
    exact ⟨h0.cell 0, h0.cell 1, h0.cell 2, h1.cell 0, h1.cell 1, h1.cell 2, h1.cell 3, h1.cell 4, h1.cell 5, h1.cell 6, h1.cell 7, h1.cell 8, h2.cell 0, h2.cell 1⟩
  clear k0 k1 k2 hR
  go_enter Try.func7, Try.ntmps7
  go_upto_region 1 with (fail)
  (try rw [show w.heap.size + 1 + 1 = w.heap.size + 2 by omega])
  generalize (((w.alloc (.cells #[.string ky, .bool dr, .string da] 36)).alloc (.cells #[.int .i64 l.by_.node, .int .i64 l.by_.life, .int .i64 l.by_.seq, .int .i64 l.by_.att, .int .i64 l.home, .int .i64 l.at_.wall, .int .i64 l.at_.tie, .bool l.drop, .string l.data] 38)).alloc (.cells #[.int .i64 t.wall, .int .i64 t.tie] 24)) = w1 at *
  go_wp2_with fail
  refine (BG.out _).mono ?_
  rintro e wa ⟨rfl, hBa⟩
  have HBW := Lib.hid (hB0.out.trans (hBa.mono hB0.out.size))
  obtain ⟨s0, s1, s2, s3, s4, s5, s6, s7, s8, s9, s10, s11, s12, s13⟩ := HS.out _ hBa
  go_wp2_with fail
  refine (LT.out _ HBW.out).mono ?_
  rintro e w3 ⟨r, rfl, hr, rfl⟩
  rcases r with _ | _
  · go_wp2_with fail
    go_ret
    exact ⟨rfl, HBW.out⟩
  have HLE : Hid (os.length ≤ 60) := by have := (hr rfl).1; exact Lib.hid (by omega)
  clear hr LT BG
  by_cases g1 : 50 < ky.size
  · go_wp2_with fail
    go_ret
    exact ⟨rfl, HBW.out⟩
  by_cases g2 : 200 < da.size
  · go_wp2_with fail
    go_ret
    exact ⟨rfl, HBW.out⟩
  by_cases g3 : kk = ky
  · rw [decide_eq_true g3] at hte
    clear g3
    go_wp2_with fail
    go_ret
    exact ⟨rfl, HBW.out⟩
  have HNE := Lib.hid g3
  rw [decide_eq_false g3] at hte
  clear g3
  by_cases g4 : 100 < kk.size
  · go_wp2_with fail
    go_ret
    exact ⟨rfl, HBW.out⟩
  go_wp2_with fail
  clear s0 s1 s2 s3 s4 s5 s6 s7 s8 s9 s10 s11 s12 s13 g1 g2 g4 hte
  go_loopw [13, 14] (fun cv iv wr => ∃ (j m : Nat) (A' : Option Addr) (c' : Nat), j ≤ n ∧ iv = .int .i64 j ∧ cv = .slice A' m c' ∧ Hid ((runF (os.take j)).length = m) ∧ OwnCs wr wa.heap.size (.slice A' m c') (runF (os.take j)) ∧ Below wa.heap.size wa wr) (fun _ iv _ => n - (intOf iv).toNat)
  case atStart => exact ⟨0, 0, none, 0, Nat.zero_le _, rfl, rfl, rfl, OwnCs.nil _ _, Below.refl _ _⟩
  case round =>
    obtain ⟨j, m, A', c', hj, rfl, rfl, hm, hO, hBr⟩ := hrel
    have hsr := hBr.size
    by_cases hlt : j < n
    · obtain ⟨b', o, x, rfl, hb, hx, hA⟩ := HC.out j hlt
      have DO := Lib.hid (run_do hx HLE.out hm.out hO (Below.refl wr.heap.size wr))
      have hAr := hA.below hb ((HBW.out.trans (hBr.mono HBW.out.size)).mono hB)
      unfold opC at DO
      obtain ⟨g0, g1, g2, g3, g4, g5, g6, g7, g8, g9, g10, g11, g12, g13⟩ := at14 hAr
      clear hAr hA hx hO hm
      go_wp2_with fail
      refine DO.out.mono ?_
      rintro e w5 ⟨A1, c1, A2, c2, rfl, hO1, hO2, hB5⟩
      go_wp2_with fail
      go_roundw
      case rel => exact ⟨j + 1, _, A1, c1, by omega, by go_num, rfl, rfl, hO1.more hsr, hBr.trans (hB5.mono hsr)⟩
      case measure => simp [intOf]; omega
    · obtain rfl : j = n := by omega
      have hOS : os.take j = os := List.take_of_length_le (by rw [HLN.out]; exact Nat.le_refl _)
      rw [hOS] at hO hm
      clear hOS
      obtain rfl := hm.out
      clear hm
      have HOK := Lib.hid (run_ok os)
      have HFW := Lib.hid (run_few os)
      have HLE' := Lib.hid HLE.out
      have p0 := hBr
      have HS2 : Hid (∀ wq, Below wr.heap.size wr wq → wq.cell? ⟨w.heap.size, 0, none⟩ = some (.string ky) ∧ wq.cell? ⟨w.heap.size, 1, none⟩ = some (.bool dr) ∧ wq.cell? ⟨w.heap.size, 2, none⟩ = some (.string da) ∧ wq.cell? ⟨w.heap.size + 1, 0, none⟩ = some (.int .i64 l.by_.node) ∧ wq.cell? ⟨w.heap.size + 1, 1, none⟩ = some (.int .i64 l.by_.life) ∧ wq.cell? ⟨w.heap.size + 1, 2, none⟩ = some (.int .i64 l.by_.seq) ∧ wq.cell? ⟨w.heap.size + 1, 3, none⟩ = some (.int .i64 l.by_.att) ∧ wq.cell? ⟨w.heap.size + 1, 4, none⟩ = some (.int .i64 l.home) ∧ wq.cell? ⟨w.heap.size + 1, 5, none⟩ = some (.int .i64 l.at_.wall) ∧ wq.cell? ⟨w.heap.size + 1, 6, none⟩ = some (.int .i64 l.at_.tie) ∧ wq.cell? ⟨w.heap.size + 1, 7, none⟩ = some (.bool l.drop) ∧ wq.cell? ⟨w.heap.size + 1, 8, none⟩ = some (.string l.data) ∧ wq.cell? ⟨w.heap.size + 2, 0, none⟩ = some (.int .i64 t.wall) ∧ wq.cell? ⟨w.heap.size + 2, 1, none⟩ = some (.int .i64 t.tie)) := fun wq hq => HS.out _ ((hBa.trans (hBr.mono hBa.size)).trans (hq.mono (hBa.trans (hBr.mono hBa.size)).size))
      have HBZ := Lib.hid (HBW.out.trans (hBr.mono HBW.out.size))
      have hle := HLE.out
      have FL := few_lock HFW.out ky (lockOf dr da l)
      have F0 := Lib.hid (few_of HFW.out (by omega))
      have F1 := Lib.hid (few_of FL (by omega))
      have F2 := Lib.hid (few_of (few_settle FL l.by_ yes) (by omega))
      have K1 := Lib.hid (ok_lock ky (lockOf dr da l) (lockOf_text dr da l) _ HOK.out)
      have K2 := Lib.hid (ok_settle K1.out l.by_ yes)
      have HPA := Lib.hid (fun hm => apart HOK.out HNE.out (lockOf dr da l) yes t (lockOf_text dr da l) hm)
      clear FL hle HC HLE HLN HFW
      generalize runF os = cs at *
      obtain ⟨s0, s1, s2, s3, s4, s5, s6, s7, s8, s9, s10, s11, s12, s13⟩ := HS2.out _ (Below.refl _ _)
      go_wp2_with fail
      refine (own_mine hO (Below.refl _ _) F0.out HOK.out l.by_).mono ?_
      rintro e y0 ⟨rfl, hY0⟩
      clear s0 s1 s2 s3 s4 s5 s6 s7 s8 s9 s10 s11 s12 s13
      by_cases hm : mineF cs l.by_ = true
      · rw [hm]
        clear hm
        go_wp2_with fail
        go_ret
        exact ⟨rfl, HBZ.out.trans (hY0.mono HBZ.out.size)⟩
      have hm' : mineF cs l.by_ = false := by simpa using hm
      have HP1 : Hid (getF (settleF l.by_ yes (lockF ky (lockOf dr da l) cs)) kk t = getF cs kk t) := (HPA.out hm').1
      have HP2 : heldF (lockF ky (lockOf dr da l) cs) kk = heldF cs kk := (HPA.out hm').2
      rw [hm']
      clear hm hm' HPA
      have q0 := hY0
      obtain ⟨s0, s1, s2, s3, s4, s5, s6, s7, s8, s9, s10, s11, s12, s13⟩ := HS2.out _ q0
      go_wp2_with fail
      refine (own_lock hO q0 F0.out HOK.out ky dr da l).mono ?_
      rintro e y1 ⟨A1, c1, rfl, hO1, hY1⟩
      have q1 := q0.trans (hY1.mono q0.size)
      generalize hr : heldF cs kk = r at *
      obtain ⟨h, hh⟩ : ∃ h, r.getD zeroL = h := ⟨_, rfl⟩
      have HH1 := Lib.hid (fun wz (hq : Below wr.heap.size wr wz) => own_held' hO hq F0.out HOK.out kk r hr h hh)
      have HH2 := Lib.hid (fun wz (hq : Below y1.heap.size y1 wz) => own_held' hO1 hq F1.out K1.out kk r HP2 h hh)
      generalize hi : r.isSome = ri at *
      clear hr hh HP2 hi
      clear s0 s1 s2 s3 s4 s5 s6 s7 s8 s9 s10 s11 s12 s13
      obtain ⟨s0, s1, s2, s3, s4, s5, s6, s7, s8, s9, s10, s11, s12, s13⟩ := HS2.out _ q1
      go_wp2_with fail
      refine (own_settle hO1 (Below.refl _ _) F1.out K1.out l.by_ yes).mono ?_
      rintro e y2 ⟨A2, c2, rfl, hO2, hY2⟩
      have q2 := q1.trans (hY2.mono q1.size)
      clear s0 s1 s2 s3 s4 s5 s6 s7 s8 s9 s10 s11 s12 s13
      obtain ⟨s0, s1, s2, s3, s4, s5, s6, s7, s8, s9, s10, s11, s12, s13⟩ := HS2.out _ q2
      generalize settleF l.by_ yes (lockF ky (lockOf dr da l) cs) = ds at *
      generalize lockF ky (lockOf dr da l) cs = es at *
      go_wp2_with fail
      refine (own_get hO q2 F0.out HOK.out kk t).mono ?_
      rintro e y3 ⟨rfl, hY3⟩
      have q3 := q2.trans (hY3.mono q2.size)
      clear s0 s1 s2 s3 s4 s5 s6 s7 s8 s9 s10 s11 s12 s13
      obtain ⟨s0, s1, s2, s3, s4, s5, s6, s7, s8, s9, s10, s11, s12, s13⟩ := HS2.out _ q3
      go_wp2_with fail
      refine (own_get hO2 hY3 F2.out K2.out kk t).mono ?_
      rintro e y4 ⟨rfl, hY4⟩
      have q4 := q3.trans (hY4.mono q3.size)
      rw [HP1.out]
      clear s0 s1 s2 s3 s4 s5 s6 s7 s8 s9 s10 s11 s12 s13 HP1
      go_wp2_with fail
      refine (HH1.out _ q4).mono ?_
      rintro e y5 ⟨rfl, hY5⟩
      have q5 := q4.trans (hY5.mono q4.size)
      have hY15 := ((hY2.trans (hY3.mono hY2.size)).trans (hY4.mono (hY2.trans (hY3.mono hY2.size)).size)).trans (hY5.mono ((hY2.trans (hY3.mono hY2.size)).trans (hY4.mono (hY2.trans (hY3.mono hY2.size)).size)).size)
      have kh : Blk 38 (y5.alloc (.cells #[.int .i64 h.by_.node, .int .i64 h.by_.life, .int .i64 h.by_.seq, .int .i64 h.by_.att, .int .i64 h.home, .int .i64 h.at_.wall, .int .i64 h.at_.tie, .bool h.drop, .string h.data] 38)) y5.heap.size [.int .i64 h.by_.node, .int .i64 h.by_.life, .int .i64 h.by_.seq, .int .i64 h.by_.att, .int .i64 h.home, .int .i64 h.at_.wall, .int .i64 h.at_.tie, .bool h.drop, .string h.data] := heap_alloc_new y5 _
      have q5a := q5.alloc q5.size (.cells #[.int .i64 h.by_.node, .int .i64 h.by_.life, .int .i64 h.by_.seq, .int .i64 h.by_.att, .int .i64 h.home, .int .i64 h.at_.wall, .int .i64 h.at_.tie, .bool h.drop, .string h.data] 38)
      have hY15a := hY15.alloc hY15.size (.cells #[.int .i64 h.by_.node, .int .i64 h.by_.life, .int .i64 h.by_.seq, .int .i64 h.by_.att, .int .i64 h.home, .int .i64 h.at_.wall, .int .i64 h.at_.tie, .bool h.drop, .string h.data] 38)
      go_upto_region 17 with (fail)
      obtain ⟨g, hg⟩ : ∃ g, y5.heap.size = g := ⟨_, rfl⟩
      rw [hg] at kh ⊢
      generalize (y5.alloc (.cells #[.int .i64 h.by_.node, .int .i64 h.by_.life, .int .i64 h.by_.seq, .int .i64 h.by_.att, .int .i64 h.home, .int .i64 h.at_.wall, .int .i64 h.at_.tie, .bool h.drop, .string h.data] 38)) = z5 at *
      go_wp2_with fail
      refine (HH2.out _ hY15a).mono ?_
      rintro e y6 ⟨rfl, hY6⟩
      have q6 := q5a.trans (hY6.mono q5a.size)
      have kh6 := (kh.below hY6 kh.lt).alloc (.cells #[.int .i64 h.by_.node, .int .i64 h.by_.life, .int .i64 h.by_.seq, .int .i64 h.by_.att, .int .i64 h.home, .int .i64 h.at_.wall, .int .i64 h.at_.tie, .bool h.drop, .string h.data] 38)
      have kn : Blk 38 (y6.alloc (.cells #[.int .i64 h.by_.node, .int .i64 h.by_.life, .int .i64 h.by_.seq, .int .i64 h.by_.att, .int .i64 h.home, .int .i64 h.at_.wall, .int .i64 h.at_.tie, .bool h.drop, .string h.data] 38)) y6.heap.size [.int .i64 h.by_.node, .int .i64 h.by_.life, .int .i64 h.by_.seq, .int .i64 h.by_.att, .int .i64 h.home, .int .i64 h.at_.wall, .int .i64 h.at_.tie, .bool h.drop, .string h.data] := heap_alloc_new y6 _
      have q6a := q6.alloc q6.size (.cells #[.int .i64 h.by_.node, .int .i64 h.by_.life, .int .i64 h.by_.seq, .int .i64 h.by_.att, .int .i64 h.home, .int .i64 h.at_.wall, .int .i64 h.at_.tie, .bool h.drop, .string h.data] 38)
      go_upto_region 18 with (fail)
      obtain ⟨g2, hg2⟩ : ∃ g2, y6.heap.size = g2 := ⟨_, rfl⟩
      rw [hg2] at kn ⊢
      generalize (y6.alloc (.cells #[.int .i64 h.by_.node, .int .i64 h.by_.life, .int .i64 h.by_.seq, .int .i64 h.by_.att, .int .i64 h.home, .int .i64 h.at_.wall, .int .i64 h.at_.tie, .bool h.drop, .string h.data] 38)) = z6 at *
      obtain ⟨u0, u1, u2, u3, u4, u5, u6, u7, u8⟩ := blk9 kh6
      obtain ⟨v0, v1, v2, v3, v4, v5, v6, v7, v8⟩ := blk9 kn
      have hEh := hEq h
      go_wp2_with fail
      go_ret
      exact ⟨rfl, HBZ.out.trans (q6a.mono HBZ.out.size)⟩
end Go.Proofs.Ytlkhmpfdajefiaa.law8
