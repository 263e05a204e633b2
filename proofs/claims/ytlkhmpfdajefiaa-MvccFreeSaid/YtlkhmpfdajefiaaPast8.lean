/- What MvccPast comes to. Conditions: what the operations read as. -/
import Derived.Test.YtlkhmpfdajefiaaTurns8
namespace Go.Proofs.Ytlkhmpfdajefiaa.law8
open Go Go.RowKit Go.Proofs.Ytlkhmpfdajefiaa.kit Go.Proofs.Ytlkhmpfdajefiaa.nums Go.Proofs.Ytlkhmpfdajefiaa.st Go.Proofs.Ytlkhmpfdajefiaa.mv Go.Proofs.Ytlkhmpfdajefiaa.ref8
set_option linter.unusedVariables false

set_option maxRecDepth 100000 in
set_option maxHeartbeats 4000000 in
theorem past_any (A : Option Addr) (n c : Nat) (os : List OpM) (ky : ByteArray) (dr : Bool) (da : ByteArray) (l : LockL) (yes : Bool) (t : StL) (w : World) (B : Nat) (hR : RdOpM w B A n os) (hB : B ≤ w.heap.size) (hn : n ≤ 9223372036854775807) :
    Calls Try.prog 6 #[.slice A n c, .agg #[.string ky, .bool dr, .string da], .agg #[.int .i64 l.by_.node, .int .i64 l.by_.life, .int .i64 l.by_.seq, .int .i64 l.by_.att, .int .i64 l.home, .int .i64 l.at_.wall, .int .i64 l.at_.tie, .bool l.drop, .string l.data], .bool yes, .agg #[.int .i64 t.wall, .int .i64 t.tie]] w fun e w' => e = .returned (.bool true) ∧ Below w.heap.size w w' := by
  have HLN := Lib.hid hR.1
  have HC := Lib.hid (fun j (hj : j < n) => hR.at_ hj)
  have BG := Lib.hid (fun w => begun_any w)
  have LT := Lib.hid (fun (wq : World) (h : Below w.heap.size w wq) => light_any A n c 40 os wq B (hR.below (h.mono hB)) hn)
  have LS := Lib.hid (fun w => ref6.less_any t l.at_ w)
  unfold ref6.stV at LS
  have hB0 : Hid (Below w.heap.size w (((w.alloc (.cells #[.string ky, .bool dr, .string da] 36)).alloc (.cells #[.int .i64 l.by_.node, .int .i64 l.by_.life, .int .i64 l.by_.seq, .int .i64 l.by_.att, .int .i64 l.home, .int .i64 l.at_.wall, .int .i64 l.at_.tie, .bool l.drop, .string l.data] 38)).alloc (.cells #[.int .i64 t.wall, .int .i64 t.tie] 24))) := (((Below.refl _ _).alloc (Nat.le_refl _) _).alloc (by simp) _).alloc (by simp; omega) _
  have k0 : Blk 36 (((w.alloc (.cells #[.string ky, .bool dr, .string da] 36)).alloc (.cells #[.int .i64 l.by_.node, .int .i64 l.by_.life, .int .i64 l.by_.seq, .int .i64 l.by_.att, .int .i64 l.home, .int .i64 l.at_.wall, .int .i64 l.at_.tie, .bool l.drop, .string l.data] 38)).alloc (.cells #[.int .i64 t.wall, .int .i64 t.tie] 24)) w.heap.size [.string ky, .bool dr, .string da] := Blk.alloc (Blk.alloc (heap_alloc_new w _) _) _
  have k1 : Blk 38 (((w.alloc (.cells #[.string ky, .bool dr, .string da] 36)).alloc (.cells #[.int .i64 l.by_.node, .int .i64 l.by_.life, .int .i64 l.by_.seq, .int .i64 l.by_.att, .int .i64 l.home, .int .i64 l.at_.wall, .int .i64 l.at_.tie, .bool l.drop, .string l.data] 38)).alloc (.cells #[.int .i64 t.wall, .int .i64 t.tie] 24)) (w.heap.size + 1) [.int .i64 l.by_.node, .int .i64 l.by_.life, .int .i64 l.by_.seq, .int .i64 l.by_.att, .int .i64 l.home, .int .i64 l.at_.wall, .int .i64 l.at_.tie, .bool l.drop, .string l.data] := by
    have := Blk.alloc (E := 38) (cs := [.int .i64 l.by_.node, .int .i64 l.by_.life, .int .i64 l.by_.seq, .int .i64 l.by_.att, .int .i64 l.home, .int .i64 l.at_.wall, .int .i64 l.at_.tie, .bool l.drop, .string l.data]) (heap_alloc_new (w.alloc (.cells #[.string ky, .bool dr, .string da] 36)) _) (.cells #[.int .i64 t.wall, .int .i64 t.tie] 24)
    simpa using this
  have k2 : Blk 24 (((w.alloc (.cells #[.string ky, .bool dr, .string da] 36)).alloc (.cells #[.int .i64 l.by_.node, .int .i64 l.by_.life, .int .i64 l.by_.seq, .int .i64 l.by_.att, .int .i64 l.home, .int .i64 l.at_.wall, .int .i64 l.at_.tie, .bool l.drop, .string l.data] 38)).alloc (.cells #[.int .i64 t.wall, .int .i64 t.tie] 24)) (w.heap.size + 2) [.int .i64 t.wall, .int .i64 t.tie] := by
    have := heap_alloc_new ((w.alloc (.cells #[.string ky, .bool dr, .string da] 36)).alloc (.cells #[.int .i64 l.by_.node, .int .i64 l.by_.life, .int .i64 l.by_.seq, .int .i64 l.by_.att, .int .i64 l.home, .int .i64 l.at_.wall, .int .i64 l.at_.tie, .bool l.drop, .string l.data] 38)) (.cells #[.int .i64 t.wall, .int .i64 t.tie] 24)
    simpa [Blk] using this
  have HS : Hid (∀ wq, Below (((w.alloc (.cells #[.string ky, .bool dr, .string da] 36)).alloc (.cells #[.int .i64 l.by_.node, .int .i64 l.by_.life, .int .i64 l.by_.seq, .int .i64 l.by_.att, .int .i64 l.home, .int .i64 l.at_.wall, .int .i64 l.at_.tie, .bool l.drop, .string l.data] 38)).alloc (.cells #[.int .i64 t.wall, .int .i64 t.tie] 24)).heap.size (((w.alloc (.cells #[.string ky, .bool dr, .string da] 36)).alloc (.cells #[.int .i64 l.by_.node, .int .i64 l.by_.life, .int .i64 l.by_.seq, .int .i64 l.by_.att, .int .i64 l.home, .int .i64 l.at_.wall, .int .i64 l.at_.tie, .bool l.drop, .string l.data] 38)).alloc (.cells #[.int .i64 t.wall, .int .i64 t.tie] 24)) wq → wq.cell? ⟨w.heap.size, 0, none⟩ = some (.string ky) ∧ wq.cell? ⟨w.heap.size, 1, none⟩ = some (.bool dr) ∧ wq.cell? ⟨w.heap.size, 2, none⟩ = some (.string da) ∧ wq.cell? ⟨w.heap.size + 1, 0, none⟩ = some (.int .i64 l.by_.node) ∧ wq.cell? ⟨w.heap.size + 1, 1, none⟩ = some (.int .i64 l.by_.life) ∧ wq.cell? ⟨w.heap.size + 1, 2, none⟩ = some (.int .i64 l.by_.seq) ∧ wq.cell? ⟨w.heap.size + 1, 3, none⟩ = some (.int .i64 l.by_.att) ∧ wq.cell? ⟨w.heap.size + 1, 4, none⟩ = some (.int .i64 l.home) ∧ wq.cell? ⟨w.heap.size + 1, 5, none⟩ = some (.int .i64 l.at_.wall) ∧ wq.cell? ⟨w.heap.size + 1, 6, none⟩ = some (.int .i64 l.at_.tie) ∧ wq.cell? ⟨w.heap.size + 1, 7, none⟩ = some (.bool l.drop) ∧ wq.cell? ⟨w.heap.size + 1, 8, none⟩ = some (.string l.data) ∧ wq.cell? ⟨w.heap.size + 2, 0, none⟩ = some (.int .i64 t.wall) ∧ wq.cell? ⟨w.heap.size + 2, 1, none⟩ = some (.int .i64 t.tie)) := fun wq hq => by
    have h0 := k0.below hq k0.lt
    have h1 := k1.below hq k1.lt
    have h2 := k2.below hq k2.lt
    exact ⟨h0.cell 0, h0.cell 1, h0.cell 2, h1.cell 0, h1.cell 1, h1.cell 2, h1.cell 3, h1.cell 4, h1.cell 5, h1.cell 6, h1.cell 7, h1.cell 8, h2.cell 0, h2.cell 1⟩
  clear k0 k1 k2 hR
  go_enter Try.func6, Try.ntmps6
  go_upto_region 1 with (fail)
  (try rw [show w.heap.size + 1 + 1 = w.heap.size + 2 by omega])
  generalize (((w.alloc (.cells #[.string ky, .bool dr, .string da] 36)).alloc (.cells #[.int .i64 l.by_.node, .int .i64 l.by_.life, .int .i64 l.by_.seq, .int .i64 l.by_.att, .int .i64 l.home, .int .i64 l.at_.wall, .int .i64 l.at_.tie, .bool l.drop, .string l.data] 38)).alloc (.cells #[.int .i64 t.wall, .int .i64 t.tie] 24)) = w1 at *
  go_wp2_with fail
  refine (BG.out _).mono ?_
  rintro e wa ⟨rfl, hBa⟩
  have HBW := Lib.hid (hB0.out.trans (hBa.mono hB0.out.size))
  obtain ⟨s0, s1, s2, s3, s4, s5, s6, s7, s8, s9, s10, s11, s12, s13⟩ := HS.out _ hBa
  go_wp2_with fail
  refine (LT.out _ HBW.out).mono ?_
  rintro e w3 ⟨r, rfl, hr, rfl⟩
  rcases r with _ | _
  · go_wp2_with fail
    go_ret
    exact ⟨rfl, HBW.out⟩
  have HLE : Hid (os.length ≤ 60) := by have := (hr rfl).1; exact Lib.hid (by omega)
  clear hr LT BG
  by_cases g1 : 50 < ky.size
  · go_wp2_with fail
    go_ret
    exact ⟨rfl, HBW.out⟩
  by_cases g2 : 200 < da.size
  · go_wp2_with fail
    go_ret
    exact ⟨rfl, HBW.out⟩
  go_wp2_with fail
  clear s0 s1 s2 s3 s4 s5 s6 s7 s8 s9 s10 s11 s12 s13 g1 g2
  go_loopw [11, 12] (fun cv iv wr => ∃ (j m : Nat) (A' : Option Addr) (c' : Nat), j ≤ n ∧ iv = .int .i64 j ∧ cv = .slice A' m c' ∧ Hid ((runF (os.take j)).length = m) ∧ OwnCs wr wa.heap.size (.slice A' m c') (runF (os.take j)) ∧ Below wa.heap.size wa wr) (fun _ iv _ => n - (intOf iv).toNat)
  case atStart => exact ⟨0, 0, none, 0, Nat.zero_le _, rfl, rfl, rfl, OwnCs.nil _ _, Below.refl _ _⟩
  case round =>
    obtain ⟨j, m, A', c', hj, rfl, rfl, hm, hO, hBr⟩ := hrel
    have hsr := hBr.size
    by_cases hlt : j < n
    · obtain ⟨b', o, x, rfl, hb, hx, hA⟩ := HC.out j hlt
      have DO := Lib.hid (run_do hx HLE.out hm.out hO (Below.refl wr.heap.size wr))
      have hAr := hA.below hb ((HBW.out.trans (hBr.mono HBW.out.size)).mono hB)
      unfold opC at DO
      obtain ⟨g0, g1, g2, g3, g4, g5, g6, g7, g8, g9, g10, g11, g12, g13⟩ := at14 hAr
      clear hAr hA hx hO hm
      go_wp2_with fail
      refine DO.out.mono ?_
      rintro e w5 ⟨A1, c1, A2, c2, rfl, hO1, hO2, hB5⟩
      go_wp2_with fail
      go_roundw
      case rel => exact ⟨j + 1, _, A1, c1, by omega, by go_num, rfl, rfl, hO1.more hsr, hBr.trans (hB5.mono hsr)⟩
      case measure => simp [intOf]; omega
    · obtain rfl : j = n := by omega
      have hOS : os.take j = os := List.take_of_length_le (by rw [HLN.out]; exact Nat.le_refl _)
      rw [hOS] at hO hm
      clear hOS
      obtain rfl := hm.out
      clear hm
      have HOK := Lib.hid (run_ok os)
      have HFW := Lib.hid (run_few os)
      have HLE' := Lib.hid HLE.out
      have p0 := hBr
      have HS2 : Hid (∀ wq, Below wr.heap.size wr wq → wq.cell? ⟨w.heap.size, 0, none⟩ = some (.string ky) ∧ wq.cell? ⟨w.heap.size, 1, none⟩ = some (.bool dr) ∧ wq.cell? ⟨w.heap.size, 2, none⟩ = some (.string da) ∧ wq.cell? ⟨w.heap.size + 1, 0, none⟩ = some (.int .i64 l.by_.node) ∧ wq.cell? ⟨w.heap.size + 1, 1, none⟩ = some (.int .i64 l.by_.life) ∧ wq.cell? ⟨w.heap.size + 1, 2, none⟩ = some (.int .i64 l.by_.seq) ∧ wq.cell? ⟨w.heap.size + 1, 3, none⟩ = some (.int .i64 l.by_.att) ∧ wq.cell? ⟨w.heap.size + 1, 4, none⟩ = some (.int .i64 l.home) ∧ wq.cell? ⟨w.heap.size + 1, 5, none⟩ = some (.int .i64 l.at_.wall) ∧ wq.cell? ⟨w.heap.size + 1, 6, none⟩ = some (.int .i64 l.at_.tie) ∧ wq.cell? ⟨w.heap.size + 1, 7, none⟩ = some (.bool l.drop) ∧ wq.cell? ⟨w.heap.size + 1, 8, none⟩ = some (.string l.data) ∧ wq.cell? ⟨w.heap.size + 2, 0, none⟩ = some (.int .i64 t.wall) ∧ wq.cell? ⟨w.heap.size + 2, 1, none⟩ = some (.int .i64 t.tie)) := fun wq hq => HS.out _ ((hBa.trans (hBr.mono hBa.size)).trans (hq.mono (hBa.trans (hBr.mono hBa.size)).size))
      have HBZ := Lib.hid (HBW.out.trans (hBr.mono HBW.out.size))
      have hle := HLE.out
      have FL := few_lock HFW.out ky (lockOf dr da l)
      have F0 := Lib.hid (few_of HFW.out (by omega))
      have F1 := Lib.hid (few_of FL (by omega))
      have F2 := Lib.hid (few_of (few_settle FL l.by_ yes) (by omega))
      have K1 := Lib.hid (ok_lock ky (lockOf dr da l) (lockOf_text dr da l) _ HOK.out)
      have K2 := Lib.hid (ok_settle K1.out l.by_ yes)
      have HPA := Lib.hid (fun hm => past HOK.out ky (lockOf dr da l) yes t hm)
      clear FL hle HC HLE HLN HFW
      generalize runF os = cs at *
      obtain ⟨s0, s1, s2, s3, s4, s5, s6, s7, s8, s9, s10, s11, s12, s13⟩ := HS2.out _ (Below.refl _ _)
      go_wp2_with fail
      refine (own_mine hO (Below.refl _ _) F0.out HOK.out l.by_).mono ?_
      rintro e y0 ⟨rfl, hY0⟩
      clear s0 s1 s2 s3 s4 s5 s6 s7 s8 s9 s10 s11 s12 s13
      by_cases hm : mineF cs l.by_ = true
      · rw [hm]
        clear hm
        go_wp2_with fail
        go_ret
        exact ⟨rfl, HBZ.out.trans (hY0.mono HBZ.out.size)⟩
      have hm' : mineF cs l.by_ = false := by simpa using hm
      have HP := Lib.hid (HPA.out hm')
      rw [hm']
      clear hm hm' HPA
      have q0 : Below wr.heap.size wr y0.drew := hY0.drew
      go_upto_region 12 with (fail)
      refine wp_region_held_drew (S := fun wq => wq.cell? ⟨w.heap.size, 0, none⟩ = some (.string ky) ∧ wq.cell? ⟨w.heap.size, 1, none⟩ = some (.bool dr) ∧ wq.cell? ⟨w.heap.size, 2, none⟩ = some (.string da) ∧ wq.cell? ⟨w.heap.size + 1, 0, none⟩ = some (.int .i64 l.by_.node) ∧ wq.cell? ⟨w.heap.size + 1, 1, none⟩ = some (.int .i64 l.by_.life) ∧ wq.cell? ⟨w.heap.size + 1, 2, none⟩ = some (.int .i64 l.by_.seq) ∧ wq.cell? ⟨w.heap.size + 1, 3, none⟩ = some (.int .i64 l.by_.att) ∧ wq.cell? ⟨w.heap.size + 1, 4, none⟩ = some (.int .i64 l.home) ∧ wq.cell? ⟨w.heap.size + 1, 5, none⟩ = some (.int .i64 l.at_.wall) ∧ wq.cell? ⟨w.heap.size + 1, 6, none⟩ = some (.int .i64 l.at_.tie) ∧ wq.cell? ⟨w.heap.size + 1, 7, none⟩ = some (.bool l.drop) ∧ wq.cell? ⟨w.heap.size + 1, 8, none⟩ = some (.string l.data) ∧ wq.cell? ⟨w.heap.size + 2, 0, none⟩ = some (.int .i64 t.wall) ∧ wq.cell? ⟨w.heap.size + 2, 1, none⟩ = some (.int .i64 t.tie)) (by kernel_rfl) ?s_0 (fun hHeld => ?_)
      case s_0 => exact HS2.out _ q0
      refine tk 0 { dst := some 56, op := .move (.tmp 11), type := 31, pos := "law.go:183", after := #[], guard := none } _ ?_
      try simp only [Act.put, List.setIfInBounds_toArray, List.set_cons_zero, List.set_cons_succ]
      refine tk 1 { dst := some 57, op := .load 36 (.tmp 6), type := 36, pos := "law.go:183", after := #[], guard := none } _ ?_
      try simp only [Act.put, List.setIfInBounds_toArray, List.set_cons_zero, List.set_cons_succ]
      refine tk 2 { dst := some 58, op := .load 38 (.tmp 7), type := 38, pos := "law.go:183", after := #[], guard := none } _ ?_
      try simp only [Act.put, List.setIfInBounds_toArray, List.set_cons_zero, List.set_cons_succ]
      refine tk 4 { dst := some 60, op := .fieldAddr 38 (.tmp 7) 0, type := 0, pos := "law.go:183", after := #[], guard := none } _ ?_
      try simp only [Act.put, List.setIfInBounds_toArray, List.set_cons_zero, List.set_cons_succ]
      refine tk 5 { dst := some 61, op := .load 28 (.tmp 60), type := 28, pos := "law.go:183", after := #[{ on := 4, ground := .data }], guard := none } _ ?_
      try simp only [Act.put, List.setIfInBounds_toArray, List.set_cons_zero, List.set_cons_succ]
      refine tk 6 { dst := some 62, op := .move (.tmp 3), type := 4, pos := "law.go:183", after := #[], guard := none } _ ?_
      try simp only [Act.put, List.setIfInBounds_toArray, List.set_cons_zero, List.set_cons_succ]
      refine wpAnyH_ready (rs := [3]) (by kernel_rfl) (by simp) ?_
      refine AllReadyH.cons (o := { dst := some 59, op := .call { callee := .value (.func 25), args := #[.tmp 56, .tmp 57, .tmp 58], argTypes := #[31, 36, 38] }, type := 31, pos := "law.go:183", after := #[{ on := 0, ground := .data }, { on := 1, ground := .data }, { on := 2, ground := .data }], guard := none }) rfl (fun KQ hKQ => ?_) AllReadyH.nil
      go_simp
      refine (own_lock hO q0 F0.out HOK.out ky dr da l).mono ?_
      rintro e y1 ⟨A1, c1, rfl, hO1, hY1⟩
      have q1 := q0.trans (hY1.mono q0.size)
      have r1 := HS2.out _ q1
      go_wp2_with fail
      refine hKQ.out _ _ ?s_3 (fun hHeld3 => ?_)
      case s_3 => exact r1
      clear hKQ KQ
      try simp only [Act.put, List.setIfInBounds_toArray, List.set_cons_zero, List.set_cons_succ]
      refine wpAnyH_ready (rs := [7]) (by kernel_rfl) (by simp) ?_
      refine AllReadyH.cons (o := { dst := some 63, op := .call { callee := .value (.func 24), args := #[.tmp 59, .tmp 61, .tmp 62], argTypes := #[31, 28, 4] }, type := 31, pos := "law.go:183", after := #[{ on := 3, ground := .data }, { on := 5, ground := .data }, { on := 6, ground := .data }, { on := 3, ground := .chain }], guard := none }) rfl (fun KQ hKQ => ?_) AllReadyH.nil
      go_simp
      refine (own_settle hO1 (Below.refl _ _) F1.out K1.out l.by_ yes).mono ?_
      rintro e y2 ⟨A2, c2, rfl, hO2, hY2⟩
      have q2 := q1.trans (hY2.mono q1.size)
      have r2 := HS2.out _ q2
      go_wp2_with fail
      refine hKQ.out _ _ ?s_7 (fun hHeld7 => ?_)
      case s_7 => exact r2
      clear hKQ KQ
      try simp only [Act.put, List.setIfInBounds_toArray, List.set_cons_zero, List.set_cons_succ]
      refine tk 8 { dst := some 13, op := .assign (.tmp 63), type := 31, pos := "law.go:183", after := #[{ on := 7, ground := .data }, { on := 7, ground := .chain }, { on := 0, ground := .phase }, { on := 1, ground := .phase }, { on := 2, ground := .phase }, { on := 3, ground := .phase }, { on := 4, ground := .phase }, { on := 5, ground := .phase }, { on := 6, ground := .phase }, { on := 7, ground := .phase }], guard := none } _ ?_
      try simp only [Act.put, List.setIfInBounds_toArray, List.set_cons_zero, List.set_cons_succ]
      refine wpAnyH_done (by kernel_rfl) ?_ _
      have HD := Lib.hid (show (lockOf dr da l).by_ = l.by_ ∧ (lockOf dr da l).at_ = l.at_ ∧ (lockOf dr da l).drop = dr ∧ (lockOf dr da l).data = (if dr then noText else da) from ⟨rfl, rfl, rfl, rfl⟩)
      have HP1 : Hid ((lessF t l.at_ = true ∨ yes = false) → getF (settleF l.by_ yes (lockF ky (lockOf dr da l) cs)) ky t = getF cs ky t) := HP.out.1
      have HP2 : Hid (yes = true → getF (settleF l.by_ yes (lockF ky (lockOf dr da l) cs)) ky l.at_ = if dr then none else some (if dr then noText else da)) := HP.out.2
      clear HP HD
      generalize settleF l.by_ yes (lockF ky (lockOf dr da l) cs) = ds at *
      clear hY1
      obtain ⟨s0, s1, s2, s3, s4, s5, s6, s7, s8, s9, s10, s11, s12, s13⟩ := HS2.out _ q2
      go_wp2_with fail
      refine (own_get hO q2 F0.out HOK.out ky t).mono ?_
      rintro e y3 ⟨rfl, hY3⟩
      have q3 := q2.trans (hY3.mono q2.size)
      clear s0 s1 s2 s3 s4 s5 s6 s7 s8 s9 s10 s11 s12 s13
      obtain ⟨s0, s1, s2, s3, s4, s5, s6, s7, s8, s9, s10, s11, s12, s13⟩ := HS2.out _ q3
      go_wp2_with fail
      refine (own_get hO2 hY3 F2.out K2.out ky t).mono ?_
      rintro e y4 ⟨rfl, hY4⟩
      have q4 := q3.trans (hY4.mono q3.size)
      have hY34 := hY3.trans (hY4.mono hY3.size)
      clear s0 s1 s2 s3 s4 s5 s6 s7 s8 s9 s10 s11 s12 s13
      obtain ⟨s0, s1, s2, s3, s4, s5, s6, s7, s8, s9, s10, s11, s12, s13⟩ := HS2.out _ q4
      go_wp2_with fail
      refine (LS.out _).mono ?_
      rintro e y5 ⟨rfl, hY5⟩
      have q5 := q4.trans (hY5.mono q4.size)
      have hY35 := hY34.trans (hY5.mono hY34.size)
      generalize hlt : lessF t l.at_ = bl at *
      clear s0 s1 s2 s3 s4 s5 s6 s7 s8 s9 s10 s11 s12 s13
      rcases bl with _ | _
      · rcases yes with _ | _
        · rw [HP1.out (.inr rfl)]
          clear HP1 HP2
          go_wp2_with fail
          go_ret
          exact ⟨rfl, HBZ.out.trans (q5.mono HBZ.out.size)⟩
        · have HG := Lib.hid (HP2.out rfl)
          clear HP1 HP2
          obtain ⟨s0, s1, s2, s3, s4, s5, s6, s7, s8, s9, s10, s11, s12, s13⟩ := HS2.out _ q5
          go_wp2_with fail
          refine (own_get hO2 hY35 F2.out K2.out ky l.at_).mono ?_
          rintro e y6 ⟨rfl, hY6⟩
          have q6 := q5.trans (hY6.mono q5.size)
          rw [HG.out]
          clear s0 s1 s2 s3 s4 s5 s6 s7 s8 s9 s10 s11 s12 s13 HG
          obtain ⟨s0, s1, s2, s3, s4, s5, s6, s7, s8, s9, s10, s11, s12, s13⟩ := HS2.out _ q6
          rcases dr with _ | _
          all_goals
            go_wp2_with fail
            go_ret
            exact ⟨rfl, HBZ.out.trans (q6.mono HBZ.out.size)⟩
      · rw [HP1.out (.inl rfl)]
        clear HP1 HP2
        go_wp2_with fail
        go_ret
        exact ⟨rfl, HBZ.out.trans (q5.mono HBZ.out.size)⟩
end Go.Proofs.Ytlkhmpfdajefiaa.law8
