/- What MvccTurns comes to. Conditions: what the operations read as. -/
import Derived.Test.YtlkhmpfdajefiaaOwn8
import Derived.Test.YtlkhmpfdajefiaaJoin0
namespace Go.Proofs.Ytlkhmpfdajefiaa.law8
open Go Go.RowKit Go.Proofs.Ytlkhmpfdajefiaa.kit Go.Proofs.Ytlkhmpfdajefiaa.nums Go.Proofs.Ytlkhmpfdajefiaa.st Go.Proofs.Ytlkhmpfdajefiaa.mv Go.Proofs.Ytlkhmpfdajefiaa.ref8
set_option linter.unusedVariables false

theorem at14 {w : World} {b o : Nat} {a0 a1 a2 a3 a4 a5 a6 a7 a8 a9 a10 a11 a12 a13 : Value} (h : At w b o [a0, a1, a2, a3, a4, a5, a6, a7, a8, a9, a10, a11, a12, a13]) : w.cell? ⟨b, o, none⟩ = some a0 ∧ w.cell? ⟨b, o + 1, none⟩ = some a1 ∧ w.cell? ⟨b, o + 2, none⟩ = some a2 ∧ w.cell? ⟨b, o + 3, none⟩ = some a3 ∧ w.cell? ⟨b, o + 4, none⟩ = some a4 ∧ w.cell? ⟨b, o + 5, none⟩ = some a5 ∧ w.cell? ⟨b, o + 6, none⟩ = some a6 ∧ w.cell? ⟨b, o + 7, none⟩ = some a7 ∧ w.cell? ⟨b, o + 8, none⟩ = some a8 ∧ w.cell? ⟨b, o + 9, none⟩ = some a9 ∧ w.cell? ⟨b, o + 10, none⟩ = some a10 ∧ w.cell? ⟨b, o + 11, none⟩ = some a11 ∧ w.cell? ⟨b, o + 12, none⟩ = some a12 ∧ w.cell? ⟨b, o + 13, none⟩ = some a13 :=
  ⟨h 0 _ rfl, h 1 _ rfl, h 2 _ rfl, h 3 _ rfl, h 4 _ rfl, h 5 _ rfl, h 6 _ rfl, h 7 _ rfl, h 8 _ rfl, h 9 _ rfl, h 10 _ rfl, h 11 _ rfl, h 12 _ rfl, h 13 _ rfl⟩
set_option maxRecDepth 100000 in
set_option maxHeartbeats 4000000 in
theorem turns_any (A : Option Addr) (n c : Nat) (os : List OpM) (a b : TrL) (x y : Bool) (w : World) (B : Nat) (hR : RdOpM w B A n os) (hB : B ≤ w.heap.size) (hn : n ≤ 9223372036854775807) :
    Calls Try.prog 9 #[.slice A n c, .agg #[.int .i64 a.node, .int .i64 a.life, .int .i64 a.seq, .int .i64 a.att], .agg #[.int .i64 b.node, .int .i64 b.life, .int .i64 b.seq, .int .i64 b.att], .bool x, .bool y] w fun e w' => e = .returned (.bool true) ∧ Below w.heap.size w w' := by
  have HLN := Lib.hid hR.1
  have HC := Lib.hid (fun j (hj : j < n) => hR.at_ hj)
  have BG := Lib.hid (fun w => begun_any w)
  have LT := Lib.hid (fun (wq : World) (h : Below w.heap.size w wq) => light_any A n c 40 os wq B (hR.below (h.mono hB)) hn)
  have hEq := fun w => eq_tr a b w
  have hB0 : Hid (Below w.heap.size w ((w.alloc (.cells #[.int .i64 a.node, .int .i64 a.life, .int .i64 a.seq, .int .i64 a.att] 28)).alloc (.cells #[.int .i64 b.node, .int .i64 b.life, .int .i64 b.seq, .int .i64 b.att] 28))) := ((Below.refl _ _).alloc (Nat.le_refl _) _).alloc (by simp) _
  have k0 : Blk 28 ((w.alloc (.cells #[.int .i64 a.node, .int .i64 a.life, .int .i64 a.seq, .int .i64 a.att] 28)).alloc (.cells #[.int .i64 b.node, .int .i64 b.life, .int .i64 b.seq, .int .i64 b.att] 28)) w.heap.size [.int .i64 a.node, .int .i64 a.life, .int .i64 a.seq, .int .i64 a.att] := Blk.alloc (heap_alloc_new w _) _
  have k1 : Blk 28 ((w.alloc (.cells #[.int .i64 a.node, .int .i64 a.life, .int .i64 a.seq, .int .i64 a.att] 28)).alloc (.cells #[.int .i64 b.node, .int .i64 b.life, .int .i64 b.seq, .int .i64 b.att] 28)) (w.heap.size + 1) [.int .i64 b.node, .int .i64 b.life, .int .i64 b.seq, .int .i64 b.att] := by
    have := heap_alloc_new (w.alloc (.cells #[.int .i64 a.node, .int .i64 a.life, .int .i64 a.seq, .int .i64 a.att] 28)) (.cells #[.int .i64 b.node, .int .i64 b.life, .int .i64 b.seq, .int .i64 b.att] 28)
    simpa [Blk] using this
  have HS : Hid (∀ wq, Below ((w.alloc (.cells #[.int .i64 a.node, .int .i64 a.life, .int .i64 a.seq, .int .i64 a.att] 28)).alloc (.cells #[.int .i64 b.node, .int .i64 b.life, .int .i64 b.seq, .int .i64 b.att] 28)).heap.size ((w.alloc (.cells #[.int .i64 a.node, .int .i64 a.life, .int .i64 a.seq, .int .i64 a.att] 28)).alloc (.cells #[.int .i64 b.node, .int .i64 b.life, .int .i64 b.seq, .int .i64 b.att] 28)) wq → wq.cell? ⟨w.heap.size, 0, none⟩ = some (.int .i64 a.node) ∧ wq.cell? ⟨w.heap.size, 1, none⟩ = some (.int .i64 a.life) ∧ wq.cell? ⟨w.heap.size, 2, none⟩ = some (.int .i64 a.seq) ∧ wq.cell? ⟨w.heap.size, 3, none⟩ = some (.int .i64 a.att) ∧ wq.cell? ⟨w.heap.size + 1, 0, none⟩ = some (.int .i64 b.node) ∧ wq.cell? ⟨w.heap.size + 1, 1, none⟩ = some (.int .i64 b.life) ∧ wq.cell? ⟨w.heap.size + 1, 2, none⟩ = some (.int .i64 b.seq) ∧ wq.cell? ⟨w.heap.size + 1, 3, none⟩ = some (.int .i64 b.att)) := fun wq hq => by
    have h0 := k0.below hq k0.lt
    have h1 := k1.below hq k1.lt
    exact ⟨h0.cell 0, h0.cell 1, h0.cell 2, h0.cell 3, h1.cell 0, h1.cell 1, h1.cell 2, h1.cell 3⟩
  clear k0 k1 hR
  go_enter Try.func9, Try.ntmps9
  go_upto_region 1 with (fail)
  generalize ((w.alloc (.cells #[.int .i64 a.node, .int .i64 a.life, .int .i64 a.seq, .int .i64 a.att] 28)).alloc (.cells #[.int .i64 b.node, .int .i64 b.life, .int .i64 b.seq, .int .i64 b.att] 28)) = w1 at *
  go_wp2_with fail
  refine (BG.out _).mono ?_
  rintro e wa ⟨rfl, hBa⟩
  have HBW := Lib.hid (hB0.out.trans (hBa.mono hB0.out.size))
  obtain ⟨s0, s1, s2, s3, s4, s5, s6, s7⟩ := HS.out _ hBa
  go_wp2_with fail
  refine (LT.out _ HBW.out).mono ?_
  rintro e w3 ⟨r, rfl, hr, rfl⟩
  rcases r with _ | _
  · go_wp2_with fail
    go_ret
    exact ⟨rfl, HBW.out⟩
  have HLE : Hid (os.length ≤ 60) := by have := (hr rfl).1; exact Lib.hid (by omega)
  clear hr LT BG
  by_cases hab : a = b
  · simp only [decide_eq_true hab] at hEq
    clear hab
    go_wp2_with fail
    go_ret
    exact ⟨rfl, HBW.out⟩
  simp only [decide_eq_false hab] at hEq
  have HAB := Lib.hid hab
  clear hab
  go_wp2_with fail
  clear hEq s0 s1 s2 s3 s4 s5 s6 s7
  go_loopw [11, 12] (fun cv iv wr => ∃ (j m : Nat) (A' : Option Addr) (c' : Nat), j ≤ n ∧ iv = .int .i64 j ∧ cv = .slice A' m c' ∧ Hid ((runF (os.take j)).length = m) ∧ OwnCs wr wa.heap.size (.slice A' m c') (runF (os.take j)) ∧ Below wa.heap.size wa wr) (fun _ iv _ => n - (intOf iv).toNat)
  case atStart => exact ⟨0, 0, none, 0, Nat.zero_le _, rfl, rfl, rfl, OwnCs.nil _ _, Below.refl _ _⟩
  case round =>
    obtain ⟨j, m, A', c', hj, rfl, rfl, hm, hO, hBr⟩ := hrel
    have hsr := hBr.size
    by_cases hlt : j < n
    · obtain ⟨b', o, x, rfl, hb, hx, hA⟩ := HC.out j hlt
      have DO := Lib.hid (run_do hx HLE.out hm.out hO (Below.refl wr.heap.size wr))
      have hAr := hA.below hb ((HBW.out.trans (hBr.mono HBW.out.size)).mono hB)
      unfold opC at DO
      obtain ⟨g0, g1, g2, g3, g4, g5, g6, g7, g8, g9, g10, g11, g12, g13⟩ := at14 hAr
      clear hAr hA hx hO hm
      go_wp2_with fail
      refine DO.out.mono ?_
      rintro e w5 ⟨A1, c1, A2, c2, rfl, hO1, hO2, hB5⟩
      go_wp2_with fail
      go_roundw
      case rel => exact ⟨j + 1, _, A1, c1, by omega, by go_num, rfl, rfl, hO1.more hsr, hBr.trans (hB5.mono hsr)⟩
      case measure => simp [intOf]; omega
    · obtain rfl : j = n := by omega
      have hOS : os.take j = os := List.take_of_length_le (by rw [HLN.out]; exact Nat.le_refl _)
      rw [hOS] at hO hm
      clear hOS
      obtain rfl := hm.out
      clear hm
      have HOK := Lib.hid (run_ok os)
      have HFW := Lib.hid (run_few os)
      have HLE' := Lib.hid HLE.out
      have p0 := hBr
      have q0 : Below wr.heap.size wr wr.drew := (Below.refl _ _).drew
      have HS2 : Hid (∀ wq, Below wr.heap.size wr wq → wq.cell? ⟨w.heap.size, 0, none⟩ = some (.int .i64 a.node) ∧ wq.cell? ⟨w.heap.size, 1, none⟩ = some (.int .i64 a.life) ∧ wq.cell? ⟨w.heap.size, 2, none⟩ = some (.int .i64 a.seq) ∧ wq.cell? ⟨w.heap.size, 3, none⟩ = some (.int .i64 a.att) ∧ wq.cell? ⟨w.heap.size + 1, 0, none⟩ = some (.int .i64 b.node) ∧ wq.cell? ⟨w.heap.size + 1, 1, none⟩ = some (.int .i64 b.life) ∧ wq.cell? ⟨w.heap.size + 1, 2, none⟩ = some (.int .i64 b.seq) ∧ wq.cell? ⟨w.heap.size + 1, 3, none⟩ = some (.int .i64 b.att)) := fun wq hq => HS.out _ ((hBa.trans (hBr.mono hBa.size)).trans (hq.mono (hBa.trans (hBr.mono hBa.size)).size))
      have FA := few_settle HFW.out a x
      have FB := few_settle HFW.out b y
      have KA := ok_settle HOK.out a x
      have KB := ok_settle HOK.out b y
      have hle := HLE.out
      have F0 := Lib.hid (few_of HFW.out (by omega))
      have F1 := Lib.hid (few_of FA (by omega))
      have F2 := Lib.hid (few_of (few_settle FA b y) (by omega))
      have F3 := Lib.hid (few_of FB (by omega))
      have F4 := Lib.hid (few_of (few_settle FB a x) (by omega))
      have F5 := Lib.hid (few_of (few_settle FA a (!x)) (by omega))
      have K1 := Lib.hid KA
      have K3 := Lib.hid KB
      have E1 := Lib.hid (turns HAB.out x y (runF os))
      have E2 := Lib.hid (turn_again a x (!x) (runF os))
      clear FA FB KA KB hle HC HLE HLN
      generalize runF os = cs at *
      go_upto_region 10 with (fail)
      refine wp_region_held_drew (S := fun wq => wq.cell? ⟨w.heap.size, 0, none⟩ = some (.int .i64 a.node) ∧ wq.cell? ⟨w.heap.size, 1, none⟩ = some (.int .i64 a.life) ∧ wq.cell? ⟨w.heap.size, 2, none⟩ = some (.int .i64 a.seq) ∧ wq.cell? ⟨w.heap.size, 3, none⟩ = some (.int .i64 a.att) ∧ wq.cell? ⟨w.heap.size + 1, 0, none⟩ = some (.int .i64 b.node) ∧ wq.cell? ⟨w.heap.size + 1, 1, none⟩ = some (.int .i64 b.life) ∧ wq.cell? ⟨w.heap.size + 1, 2, none⟩ = some (.int .i64 b.seq) ∧ wq.cell? ⟨w.heap.size + 1, 3, none⟩ = some (.int .i64 b.att)) (by kernel_rfl) ?s_0 (fun hHeld => ?_)
      case s_0 => exact HS2.out _ q0
      refine tk 0 { dst := some 38, op := .move (.tmp 11), type := 31, pos := "more.go:52", after := #[], guard := none } _ ?_
      try simp only [Act.put, List.setIfInBounds_toArray, List.set_cons_zero, List.set_cons_succ]
      refine tk 1 { dst := some 39, op := .load 28 (.tmp 6), type := 28, pos := "more.go:52", after := #[], guard := none } _ ?_
      try simp only [Act.put, List.setIfInBounds_toArray, List.set_cons_zero, List.set_cons_succ]
      refine tk 2 { dst := some 40, op := .move (.tmp 3), type := 4, pos := "more.go:52", after := #[], guard := none } _ ?_
      try simp only [Act.put, List.setIfInBounds_toArray, List.set_cons_zero, List.set_cons_succ]
      refine tk 4 { dst := some 42, op := .load 28 (.tmp 7), type := 28, pos := "more.go:52", after := #[], guard := none } _ ?_
      try simp only [Act.put, List.setIfInBounds_toArray, List.set_cons_zero, List.set_cons_succ]
      refine tk 5 { dst := some 43, op := .move (.tmp 4), type := 4, pos := "more.go:52", after := #[], guard := none } _ ?_
      try simp only [Act.put, List.setIfInBounds_toArray, List.set_cons_zero, List.set_cons_succ]
      refine tk 7 { dst := some 45, op := .move (.tmp 11), type := 31, pos := "more.go:52", after := #[], guard := none } _ ?_
      try simp only [Act.put, List.setIfInBounds_toArray, List.set_cons_zero, List.set_cons_succ]
      refine tk 8 { dst := some 46, op := .load 28 (.tmp 7), type := 28, pos := "more.go:52", after := #[], guard := none } _ ?_
      try simp only [Act.put, List.setIfInBounds_toArray, List.set_cons_zero, List.set_cons_succ]
      refine tk 9 { dst := some 47, op := .move (.tmp 4), type := 4, pos := "more.go:52", after := #[], guard := none } _ ?_
      try simp only [Act.put, List.setIfInBounds_toArray, List.set_cons_zero, List.set_cons_succ]
      refine tk 11 { dst := some 49, op := .load 28 (.tmp 6), type := 28, pos := "more.go:52", after := #[], guard := none } _ ?_
      try simp only [Act.put, List.setIfInBounds_toArray, List.set_cons_zero, List.set_cons_succ]
      refine tk 12 { dst := some 50, op := .move (.tmp 3), type := 4, pos := "more.go:52", after := #[], guard := none } _ ?_
      try simp only [Act.put, List.setIfInBounds_toArray, List.set_cons_zero, List.set_cons_succ]
      refine wpAnyH_ready (rs := [3]) (by kernel_rfl) (by simp) ?_
      refine AllReadyH.cons (o := { dst := some 41, op := .call { callee := .value (.func 24), args := #[.tmp 38, .tmp 39, .tmp 40], argTypes := #[31, 28, 4] }, type := 31, pos := "more.go:52", after := #[{ on := 0, ground := .data }, { on := 1, ground := .data }, { on := 2, ground := .data }], guard := none }) rfl (fun KQ hKQ => ?_) AllReadyH.nil
      go_simp
      refine (own_settle hO q0 F0.out HOK.out a x).mono ?_
      rintro e y1 ⟨A1, c1, rfl, hO1, hY1⟩
      have q1 := q0.trans (hY1.mono q0.size)
      have r1 := HS2.out _ q1
      go_wp2_with fail
      refine hKQ.out _ _ ?s_3 (fun hHeld3 => ?_)
      case s_3 => exact r1
      clear hKQ KQ
      try simp only [Act.put, List.setIfInBounds_toArray, List.set_cons_zero, List.set_cons_succ]
      refine wpAnyH_ready (rs := [6]) (by kernel_rfl) (by simp) ?_
      refine AllReadyH.cons (o := { dst := some 44, op := .call { callee := .value (.func 24), args := #[.tmp 41, .tmp 42, .tmp 43], argTypes := #[31, 28, 4] }, type := 31, pos := "more.go:52", after := #[{ on := 3, ground := .data }, { on := 4, ground := .data }, { on := 5, ground := .data }, { on := 3, ground := .chain }], guard := none }) rfl (fun KQ hKQ => ?_) AllReadyH.nil
      go_simp
      refine (own_settle hO1 (Below.refl _ _) F1.out K1.out b y).mono ?_
      rintro e y2 ⟨A2, c2, rfl, hO2, hY2⟩
      have q2 := q1.trans (hY2.mono q1.size)
      have r2 := HS2.out _ q2
      go_wp2_with fail
      refine hKQ.out _ _ ?s_6 (fun hHeld6 => ?_)
      case s_6 => exact r2
      clear hKQ KQ
      try simp only [Act.put, List.setIfInBounds_toArray, List.set_cons_zero, List.set_cons_succ]
      refine wpAnyH_ready (rs := [10]) (by kernel_rfl) (by simp) ?_
      refine AllReadyH.cons (o := { dst := some 48, op := .call { callee := .value (.func 24), args := #[.tmp 45, .tmp 46, .tmp 47], argTypes := #[31, 28, 4] }, type := 31, pos := "more.go:52", after := #[{ on := 7, ground := .data }, { on := 8, ground := .data }, { on := 9, ground := .data }, { on := 6, ground := .chain }], guard := none }) rfl (fun KQ hKQ => ?_) AllReadyH.nil
      go_simp
      refine (own_settle hO q2 F0.out HOK.out b y).mono ?_
      rintro e y3 ⟨A3, c3, rfl, hO3, hY3⟩
      have q3 := q2.trans (hY3.mono q2.size)
      have r3 := HS2.out _ q3
      go_wp2_with fail
      refine hKQ.out _ _ ?s_10 (fun hHeld10 => ?_)
      case s_10 => exact r3
      clear hKQ KQ
      try simp only [Act.put, List.setIfInBounds_toArray, List.set_cons_zero, List.set_cons_succ]
      refine wpAnyH_ready (rs := [13]) (by kernel_rfl) (by simp) ?_
      refine AllReadyH.cons (o := { dst := some 51, op := .call { callee := .value (.func 24), args := #[.tmp 48, .tmp 49, .tmp 50], argTypes := #[31, 28, 4] }, type := 31, pos := "more.go:52", after := #[{ on := 10, ground := .data }, { on := 11, ground := .data }, { on := 12, ground := .data }, { on := 10, ground := .chain }], guard := none }) rfl (fun KQ hKQ => ?_) AllReadyH.nil
      go_simp
      refine (own_settle hO3 (Below.refl _ _) F3.out K3.out a x).mono ?_
      rintro e y4 ⟨A4, c4, rfl, hO4, hY4⟩
      have q4 := q3.trans (hY4.mono q3.size)
      have r4 := HS2.out _ q4
      go_wp2_with fail
      refine hKQ.out _ _ ?s_13 (fun hHeld13 => ?_)
      case s_13 => exact r4
      clear hKQ KQ
      try simp only [Act.put, List.setIfInBounds_toArray, List.set_cons_zero, List.set_cons_succ]
      refine wpAnyH_ready (rs := [14]) (by kernel_rfl) (by simp) ?_
      refine AllReadyH.cons (o := { dst := some 52, op := .call { callee := .value (.func 15), args := #[.tmp 44, .tmp 51], argTypes := #[31, 31] }, type := 4, pos := "more.go:52", after := #[{ on := 6, ground := .data }, { on := 13, ground := .data }, { on := 13, ground := .chain }], guard := none }) rfl (fun KQ hKQ => ?_) AllReadyH.nil
      go_simp
      have hsm := own_same hO2 (hY3.trans (hY4.mono (hY3).size)) F2.out hO4 (Below.refl _ _) F4.out
      rw [decide_eq_true E1.out] at hsm
      refine hsm.mono ?_
      rintro e y5 ⟨rfl, hY5⟩
      have q5 := q4.trans (hY5.mono q4.size)
      have r5 := HS2.out _ q5
      go_wp2_with fail
      refine hKQ.out _ _ ?s_14 (fun hHeld14 => ?_)
      case s_14 => exact r5
      clear hKQ KQ
      try simp only [Act.put, List.setIfInBounds_toArray, List.set_cons_zero, List.set_cons_succ]
      refine tk 15 { dst := some 53, op := .move (.tmp 52), type := 4, pos := "more.go:52", after := #[{ on := 14, ground := .data }, { on := 14, ground := .chain }], guard := none } _ ?_
      try simp only [Act.put, List.setIfInBounds_toArray, List.set_cons_zero, List.set_cons_succ]
      refine tk 16 { dst := some 54, op := .move (.tmp 11), type := 31, pos := "more.go:52", after := #[{ on := 15, ground := .guard }], guard := some (15, true) } _ ?_
      try simp only [Act.put, List.setIfInBounds_toArray, List.set_cons_zero, List.set_cons_succ]
      refine tk 17 { dst := some 55, op := .load 28 (.tmp 6), type := 28, pos := "more.go:52", after := #[{ on := 15, ground := .guard }], guard := some (15, true) } _ ?_
      try simp only [Act.put, List.setIfInBounds_toArray, List.set_cons_zero, List.set_cons_succ]
      refine tk 18 { dst := some 56, op := .move (.tmp 3), type := 4, pos := "more.go:52", after := #[{ on := 15, ground := .guard }], guard := some (15, true) } _ ?_
      try simp only [Act.put, List.setIfInBounds_toArray, List.set_cons_zero, List.set_cons_succ]
      refine tk 20 { dst := some 58, op := .load 28 (.tmp 6), type := 28, pos := "more.go:52", after := #[{ on := 15, ground := .guard }], guard := some (15, true) } _ ?_
      try simp only [Act.put, List.setIfInBounds_toArray, List.set_cons_zero, List.set_cons_succ]
      refine tk 21 { dst := some 59, op := .move (.tmp 3), type := 4, pos := "more.go:52", after := #[{ on := 15, ground := .guard }], guard := some (15, true) } _ ?_
      try simp only [Act.put, List.setIfInBounds_toArray, List.set_cons_zero, List.set_cons_succ]
      refine tk 22 { dst := some 60, op := .unOp .not 4 (.tmp 59), type := 4, pos := "more.go:52", after := #[{ on := 21, ground := .data }, { on := 15, ground := .guard }], guard := some (15, true) } _ ?_
      try simp only [Act.put, List.setIfInBounds_toArray, List.set_cons_zero, List.set_cons_succ]
      refine tk 24 { dst := some 62, op := .move (.tmp 11), type := 31, pos := "more.go:52", after := #[{ on := 15, ground := .guard }], guard := some (15, true) } _ ?_
      try simp only [Act.put, List.setIfInBounds_toArray, List.set_cons_zero, List.set_cons_succ]
      refine tk 25 { dst := some 63, op := .load 28 (.tmp 6), type := 28, pos := "more.go:52", after := #[{ on := 15, ground := .guard }], guard := some (15, true) } _ ?_
      try simp only [Act.put, List.setIfInBounds_toArray, List.set_cons_zero, List.set_cons_succ]
      refine tk 26 { dst := some 64, op := .move (.tmp 3), type := 4, pos := "more.go:52", after := #[{ on := 15, ground := .guard }], guard := some (15, true) } _ ?_
      try simp only [Act.put, List.setIfInBounds_toArray, List.set_cons_zero, List.set_cons_succ]
      refine wpAnyH_ready (rs := [19]) (by kernel_rfl) (by simp) ?_
      refine AllReadyH.cons (o := { dst := some 57, op := .call { callee := .value (.func 24), args := #[.tmp 54, .tmp 55, .tmp 56], argTypes := #[31, 28, 4] }, type := 31, pos := "more.go:52", after := #[{ on := 16, ground := .data }, { on := 17, ground := .data }, { on := 18, ground := .data }, { on := 15, ground := .chain }, { on := 15, ground := .guard }], guard := some (15, true) }) rfl (fun KQ hKQ => ?_) AllReadyH.nil
      go_simp
      refine (own_settle hO q5 F0.out HOK.out a x).mono ?_
      rintro e y6 ⟨A6, c6, rfl, hO6, hY6⟩
      have q6 := q5.trans (hY6.mono q5.size)
      have r6 := HS2.out _ q6
      go_wp2_with fail
      refine hKQ.out _ _ ?s_19 (fun hHeld19 => ?_)
      case s_19 => exact r6
      clear hKQ KQ
      try simp only [Act.put, List.setIfInBounds_toArray, List.set_cons_zero, List.set_cons_succ]
      refine wpAnyH_ready (rs := [23]) (by kernel_rfl) (by simp) ?_
      refine AllReadyH.cons (o := { dst := some 61, op := .call { callee := .value (.func 24), args := #[.tmp 57, .tmp 58, .tmp 60], argTypes := #[31, 28, 4] }, type := 31, pos := "more.go:52", after := #[{ on := 19, ground := .data }, { on := 20, ground := .data }, { on := 22, ground := .data }, { on := 19, ground := .chain }, { on := 15, ground := .guard }], guard := some (15, true) }) rfl (fun KQ hKQ => ?_) AllReadyH.nil
      go_simp
      refine (own_settle hO6 (Below.refl _ _) F1.out K1.out a (!x)).mono ?_
      rintro e y7 ⟨A7, c7, rfl, hO7, hY7⟩
      have q7 := q6.trans (hY7.mono q6.size)
      have r7 := HS2.out _ q7
      go_wp2_with fail
      refine hKQ.out _ _ ?s_23 (fun hHeld23 => ?_)
      case s_23 => exact r7
      clear hKQ KQ
      try simp only [Act.put, List.setIfInBounds_toArray, List.set_cons_zero, List.set_cons_succ]
      refine wpAnyH_ready (rs := [27]) (by kernel_rfl) (by simp) ?_
      refine AllReadyH.cons (o := { dst := some 65, op := .call { callee := .value (.func 24), args := #[.tmp 62, .tmp 63, .tmp 64], argTypes := #[31, 28, 4] }, type := 31, pos := "more.go:52", after := #[{ on := 24, ground := .data }, { on := 25, ground := .data }, { on := 26, ground := .data }, { on := 23, ground := .chain }, { on := 15, ground := .guard }], guard := some (15, true) }) rfl (fun KQ hKQ => ?_) AllReadyH.nil
      go_simp
      refine (own_settle hO q7 F0.out HOK.out a x).mono ?_
      rintro e y8 ⟨A8, c8, rfl, hO8, hY8⟩
      have q8 := q7.trans (hY8.mono q7.size)
      have r8 := HS2.out _ q8
      go_wp2_with fail
      refine hKQ.out _ _ ?s_27 (fun hHeld27 => ?_)
      case s_27 => exact r8
      clear hKQ KQ
      try simp only [Act.put, List.setIfInBounds_toArray, List.set_cons_zero, List.set_cons_succ]
      refine wpAnyH_ready (rs := [28]) (by kernel_rfl) (by simp) ?_
      refine AllReadyH.cons (o := { dst := some 66, op := .call { callee := .value (.func 15), args := #[.tmp 61, .tmp 65], argTypes := #[31, 31] }, type := 4, pos := "more.go:52", after := #[{ on := 23, ground := .data }, { on := 27, ground := .data }, { on := 27, ground := .chain }, { on := 15, ground := .guard }], guard := some (15, true) }) rfl (fun KQ hKQ => ?_) AllReadyH.nil
      go_simp
      have hsm := own_same hO7 hY8 F5.out hO8 (Below.refl _ _) F1.out
      rw [decide_eq_true E2.out] at hsm
      refine hsm.mono ?_
      rintro e y9 ⟨rfl, hY9⟩
      have q9 := q8.trans (hY9.mono q8.size)
      have r9 := HS2.out _ q9
      go_wp2_with fail
      refine hKQ.out _ _ ?s_28 (fun hHeld28 => ?_)
      case s_28 => exact r9
      clear hKQ KQ
      try simp only [Act.put, List.setIfInBounds_toArray, List.set_cons_zero, List.set_cons_succ]
      refine tk 29 { dst := some 67, op := .pick (.tmp 53) (.tmp 66) (.const (.bool false)), type := 4, pos := "more.go:52", after := #[{ on := 15, ground := .data }, { on := 28, ground := .data }], guard := none } _ ?_
      try simp only [Act.put, List.setIfInBounds_toArray, List.set_cons_zero, List.set_cons_succ]
      refine tk 30 { dst := some 10, op := .assign (.tmp 67), type := 4, pos := "more.go:52", after := #[{ on := 29, ground := .data }, { on := 28, ground := .chain }, { on := 0, ground := .phase }, { on := 1, ground := .phase }, { on := 2, ground := .phase }, { on := 3, ground := .phase }, { on := 4, ground := .phase }, { on := 5, ground := .phase }, { on := 6, ground := .phase }, { on := 7, ground := .phase }, { on := 8, ground := .phase }, { on := 9, ground := .phase }, { on := 10, ground := .phase }, { on := 11, ground := .phase }, { on := 12, ground := .phase }, { on := 13, ground := .phase }, { on := 14, ground := .phase }, { on := 15, ground := .phase }, { on := 16, ground := .phase }, { on := 17, ground := .phase }, { on := 18, ground := .phase }, { on := 19, ground := .phase }, { on := 20, ground := .phase }, { on := 21, ground := .phase }, { on := 22, ground := .phase }, { on := 23, ground := .phase }, { on := 24, ground := .phase }, { on := 25, ground := .phase }, { on := 26, ground := .phase }, { on := 27, ground := .phase }, { on := 28, ground := .phase }, { on := 29, ground := .phase }], guard := none } _ ?_
      try simp only [Act.put, List.setIfInBounds_toArray, List.set_cons_zero, List.set_cons_succ]
      refine wpAnyH_done (by kernel_rfl) ?_ _
      go_wp2_with fail
      go_ret
      exact ⟨rfl, (HBW.out.trans (hBr.mono HBW.out.size)).trans (q9.mono (HBW.out.trans (hBr.mono HBW.out.size)).size)⟩
end Go.Proofs.Ytlkhmpfdajefiaa.law8
