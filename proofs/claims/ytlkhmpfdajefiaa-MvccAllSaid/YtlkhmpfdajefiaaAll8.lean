/- What MvccAll comes to. Conditions: what the operations read as. -/
import Derived.Test.YtlkhmpfdajefiaaTold8
import Derived.Test.YtlkhmpfdajefiaaTurns8
import Derived.Test.YtlkhmpfdajefiaaZero8
namespace Go.Proofs.Ytlkhmpfdajefiaa.law8
open Go Go.RowKit Go.Proofs.Ytlkhmpfdajefiaa.kit Go.Proofs.Ytlkhmpfdajefiaa.nums Go.Proofs.Ytlkhmpfdajefiaa.st Go.Proofs.Ytlkhmpfdajefiaa.mv Go.Proofs.Ytlkhmpfdajefiaa.ref8
set_option linter.unusedVariables false

theorem own_told {w wz : World} {base : Nat} {A : Option Addr} {c : Nat} {ds : List CellL} (hO : OwnCs w base (.slice A ds.length c) ds) (h : Below w.heap.size w wz) (hf : Few ds) (hok : okC ds) (kk : ByteArray) (ta : StL) (lo hi : ByteArray) (by_ : TrL) (most : Int) :
    Calls Try.prog 16 #[.slice A ds.length c, .string kk, .agg #[.int .i64 ta.wall, .int .i64 ta.tie], .agg #[.string lo, .string hi], .agg #[.int .i64 by_.node, .int .i64 by_.life, .int .i64 by_.seq, .int .i64 by_.att], .int .i64 most] wz fun e w' => e = .returned (.bool true) ∧ Below wz.heap.size wz w' :=
  told_any A _ c ds kk ta lo hi by_ most wz _ (own_rd hO h) (Nat.le_refl _) hf hok (own_cap hO)
set_option maxRecDepth 100000 in
set_option maxHeartbeats 3000000 in
theorem all_any (A : Option Addr) (n c : Nat) (os : List OpM) (kk : ByteArray) (ta : StL) (lo hi : ByteArray) (by_ : TrL) (most : Int) (w : World) (B : Nat) (hR : RdOpM w B A n os) (hB : B ≤ w.heap.size) (hn : n ≤ 9223372036854775807) :
    Calls Try.prog 3 #[.slice A n c, .string kk, .agg #[.int .i64 ta.wall, .int .i64 ta.tie], .agg #[.string lo, .string hi], .agg #[.int .i64 by_.node, .int .i64 by_.life, .int .i64 by_.seq, .int .i64 by_.att], .int .i64 most] w fun e w' => e = .returned (.bool true) ∧ Below w.heap.size w w' := by
  have HLN := Lib.hid hR.1
  have HC := Lib.hid (fun j (hj : j < n) => hR.at_ hj)
  have BG := Lib.hid (fun w => begun_any w)
  have LT := Lib.hid (fun (wq : World) (h : Below w.heap.size w wq) => light_any A n c 60 os wq B (hR.below (h.mono hB)) hn)
  have hB0 : Hid (Below w.heap.size w (((w.alloc (.cells #[.int .i64 ta.wall, .int .i64 ta.tie] 24)).alloc (.cells #[.string lo, .string hi] 26)).alloc (.cells #[.int .i64 by_.node, .int .i64 by_.life, .int .i64 by_.seq, .int .i64 by_.att] 28))) := (((Below.refl _ _).alloc (Nat.le_refl _) _).alloc (by simp) _).alloc (by simp; omega) _
  have k0 : Blk 24 (((w.alloc (.cells #[.int .i64 ta.wall, .int .i64 ta.tie] 24)).alloc (.cells #[.string lo, .string hi] 26)).alloc (.cells #[.int .i64 by_.node, .int .i64 by_.life, .int .i64 by_.seq, .int .i64 by_.att] 28)) w.heap.size [.int .i64 ta.wall, .int .i64 ta.tie] := Blk.alloc (Blk.alloc (heap_alloc_new w _) _) _
  have k1 : Blk 26 (((w.alloc (.cells #[.int .i64 ta.wall, .int .i64 ta.tie] 24)).alloc (.cells #[.string lo, .string hi] 26)).alloc (.cells #[.int .i64 by_.node, .int .i64 by_.life, .int .i64 by_.seq, .int .i64 by_.att] 28)) (w.heap.size + 1) [.string lo, .string hi] := by
    have := Blk.alloc (E := 26) (cs := [.string lo, .string hi]) (heap_alloc_new (w.alloc (.cells #[.int .i64 ta.wall, .int .i64 ta.tie] 24)) _) (.cells #[.int .i64 by_.node, .int .i64 by_.life, .int .i64 by_.seq, .int .i64 by_.att] 28)
    simpa using this
  have k2 : Blk 28 (((w.alloc (.cells #[.int .i64 ta.wall, .int .i64 ta.tie] 24)).alloc (.cells #[.string lo, .string hi] 26)).alloc (.cells #[.int .i64 by_.node, .int .i64 by_.life, .int .i64 by_.seq, .int .i64 by_.att] 28)) (w.heap.size + 2) [.int .i64 by_.node, .int .i64 by_.life, .int .i64 by_.seq, .int .i64 by_.att] := by
    have := heap_alloc_new ((w.alloc (.cells #[.int .i64 ta.wall, .int .i64 ta.tie] 24)).alloc (.cells #[.string lo, .string hi] 26)) (.cells #[.int .i64 by_.node, .int .i64 by_.life, .int .i64 by_.seq, .int .i64 by_.att] 28)
    simpa [Blk] using this
  have HS : Hid (∀ wq, Below (((w.alloc (.cells #[.int .i64 ta.wall, .int .i64 ta.tie] 24)).alloc (.cells #[.string lo, .string hi] 26)).alloc (.cells #[.int .i64 by_.node, .int .i64 by_.life, .int .i64 by_.seq, .int .i64 by_.att] 28)).heap.size (((w.alloc (.cells #[.int .i64 ta.wall, .int .i64 ta.tie] 24)).alloc (.cells #[.string lo, .string hi] 26)).alloc (.cells #[.int .i64 by_.node, .int .i64 by_.life, .int .i64 by_.seq, .int .i64 by_.att] 28)) wq → wq.cell? ⟨w.heap.size, 0, none⟩ = some (.int .i64 ta.wall) ∧ wq.cell? ⟨w.heap.size, 1, none⟩ = some (.int .i64 ta.tie) ∧ wq.cell? ⟨w.heap.size + 1, 0, none⟩ = some (.string lo) ∧ wq.cell? ⟨w.heap.size + 1, 1, none⟩ = some (.string hi) ∧ wq.cell? ⟨w.heap.size + 2, 0, none⟩ = some (.int .i64 by_.node) ∧ wq.cell? ⟨w.heap.size + 2, 1, none⟩ = some (.int .i64 by_.life) ∧ wq.cell? ⟨w.heap.size + 2, 2, none⟩ = some (.int .i64 by_.seq) ∧ wq.cell? ⟨w.heap.size + 2, 3, none⟩ = some (.int .i64 by_.att)) := fun wq hq => by
    have h0 := k0.below hq k0.lt
    have h1 := k1.below hq k1.lt
    have h2 := k2.below hq k2.lt
    exact ⟨h0.cell 0, h0.cell 1, h1.cell 0, h1.cell 1, h2.cell 0, h2.cell 1, h2.cell 2, h2.cell 3⟩
  clear k0 k1 k2 hR
  go_enter Try.func3, Try.ntmps3
  go_upto_region 1 with (fail)
  (try rw [show w.heap.size + 1 + 1 = w.heap.size + 2 by omega])
  generalize (((w.alloc (.cells #[.int .i64 ta.wall, .int .i64 ta.tie] 24)).alloc (.cells #[.string lo, .string hi] 26)).alloc (.cells #[.int .i64 by_.node, .int .i64 by_.life, .int .i64 by_.seq, .int .i64 by_.att] 28)) = w1 at *
  go_wp2_with fail
  refine (BG.out _).mono ?_
  rintro e wa ⟨rfl, hBa⟩
  have HBW := Lib.hid (hB0.out.trans (hBa.mono hB0.out.size))
  obtain ⟨s0, s1, s2, s3, s4, s5, s6, s7⟩ := HS.out _ hBa
  go_wp2_with fail
  refine (LT.out _ HBW.out).mono ?_
  rintro e w3 ⟨r, rfl, hr, rfl⟩
  rcases r with _ | _
  · go_wp2_with fail
    go_ret
    exact ⟨rfl, HBW.out⟩
  have HLE : Hid (os.length ≤ 60) := by have := (hr rfl).1; exact Lib.hid (by omega)
  clear hr LT BG
  by_cases g1 : 100 < kk.size
  · go_wp2_with fail
    go_ret
    exact ⟨rfl, HBW.out⟩
  by_cases g2 : 200 < lo.size
  · go_wp2_with fail
    go_ret
    exact ⟨rfl, HBW.out⟩
  by_cases g3 : 200 < hi.size
  · go_wp2_with fail
    go_ret
    exact ⟨rfl, HBW.out⟩
  go_wp2_with fail
  clear s0 s1 s2 s3 s4 s5 s6 s7 g1 g2 g3
  go_loopw [13, 14] (fun cv iv wr => ∃ (j m : Nat) (A' : Option Addr) (c' : Nat), j ≤ n ∧ iv = .int .i64 j ∧ cv = .slice A' m c' ∧ Hid ((runF (os.take j)).length = m) ∧ Hid (OwnCs wr wa.heap.size (.slice A' m c') (runF (os.take j))) ∧ Below wa.heap.size wa wr) (fun _ iv _ => n - (intOf iv).toNat)
  case atStart => exact ⟨0, 0, none, 0, Nat.zero_le _, rfl, rfl, rfl, OwnCs.nil _ _, Below.refl _ _⟩
  case round =>
    obtain ⟨j, m, A', c', hj, rfl, rfl, hm, hO, hBr⟩ := hrel
    have hsr := hBr.size
    have hBwr := HBW.out.trans (hBr.mono HBW.out.size)
    by_cases hlt : j < n
    · obtain ⟨b2, o, x, rfl, hb, hx, hA⟩ := HC.out j hlt
      obtain ⟨wo, hwo⟩ : ∃ wo, wo = wr := ⟨_, rfl⟩
      subst hwo
      have HS2 : Hid (∀ wq, Below wo.heap.size wo wq → (wq.cell? ⟨w.heap.size, 0, none⟩ = some (.int .i64 ta.wall) ∧ wq.cell? ⟨w.heap.size, 1, none⟩ = some (.int .i64 ta.tie) ∧ wq.cell? ⟨w.heap.size + 1, 0, none⟩ = some (.string lo) ∧ wq.cell? ⟨w.heap.size + 1, 1, none⟩ = some (.string hi) ∧ wq.cell? ⟨w.heap.size + 2, 0, none⟩ = some (.int .i64 by_.node) ∧ wq.cell? ⟨w.heap.size + 2, 1, none⟩ = some (.int .i64 by_.life) ∧ wq.cell? ⟨w.heap.size + 2, 2, none⟩ = some (.int .i64 by_.seq) ∧ wq.cell? ⟨w.heap.size + 2, 3, none⟩ = some (.int .i64 by_.att)) ∧ wq.cell? ⟨b2, o + j * 14, none⟩ = some (.int .i64 x.kind) ∧ wq.cell? ⟨b2, o + j * 14 + 1, none⟩ = some (.string x.key) ∧ wq.cell? ⟨b2, o + j * 14 + 2, none⟩ = some (.bool x.drop) ∧ wq.cell? ⟨b2, o + j * 14 + 3, none⟩ = some (.string x.data) ∧ wq.cell? ⟨b2, o + j * 14 + 4, none⟩ = some (.int .i64 x.lk.by_.node) ∧ wq.cell? ⟨b2, o + j * 14 + 5, none⟩ = some (.int .i64 x.lk.by_.life) ∧ wq.cell? ⟨b2, o + j * 14 + 6, none⟩ = some (.int .i64 x.lk.by_.seq) ∧ wq.cell? ⟨b2, o + j * 14 + 7, none⟩ = some (.int .i64 x.lk.by_.att) ∧ wq.cell? ⟨b2, o + j * 14 + 8, none⟩ = some (.int .i64 x.lk.home) ∧ wq.cell? ⟨b2, o + j * 14 + 9, none⟩ = some (.int .i64 x.lk.at_.wall) ∧ wq.cell? ⟨b2, o + j * 14 + 10, none⟩ = some (.int .i64 x.lk.at_.tie) ∧ wq.cell? ⟨b2, o + j * 14 + 11, none⟩ = some (.bool x.lk.drop) ∧ wq.cell? ⟨b2, o + j * 14 + 12, none⟩ = some (.string x.lk.data) ∧ wq.cell? ⟨b2, o + j * 14 + 13, none⟩ = some (.bool x.yes)) := fun wq hq => ⟨HS.out _ ((hBa.trans (hBr.mono hBa.size)).trans (hq.mono (hBa.trans (hBr.mono hBa.size)).size)), at14 (hA.below hb ((hBwr.trans (hq.mono hBwr.size)).mono hB))⟩
      have hfj : (os.take j).length ≤ 60 := by rw [List.length_take]; have := HLE.out; omega
      have hfj1 : (os.take (j + 1)).length ≤ 60 := by rw [List.length_take]; have := HLE.out; omega
      have F0 := Lib.hid (few_of (run_few (os.take j)) (by omega))
      have F1 := Lib.hid (few_of (run_few (os.take (j + 1))) (by omega))
      have K1 := Lib.hid (run_ok (os.take (j + 1)))
      have hO0 := hO.out
      have DO := Lib.hid (fun (wq : World) (hq : Below wo.heap.size wo wq) => run_do hx HLE.out hm.out hO0 hq)
      obtain rfl := hm.out
      have CP := Lib.hid (ref8.copy_any A' _ c' (runF (os.take j)) wo wo.heap.size (own_rd hO0 (Below.refl _ _)) (Nat.le_refl _) F0.out)
      unfold opC at DO
      have hmc : (runF (os.take j)).length ≤ 1000 := F0.out.1
      clear hO0 hA hx hm hfj hfj1
      obtain ⟨cs, hcs⟩ : ∃ cs, runF (os.take j) = cs := ⟨_, rfl⟩
      obtain ⟨ds, hds⟩ : ∃ ds, runF (os.take (j + 1)) = ds := ⟨_, rfl⟩
      have HDS : Hid (runF (os.take (j + 1)) = ds) := hds
      rw [hcs] at hO F0 CP hmc DO ⊢
      rw [hds] at F1 K1 DO
      clear hcs hds
      obtain ⟨nc, hnc⟩ : ∃ nc, cs.length = nc := ⟨_, rfl⟩
      rw [hnc] at hO CP hmc DO ⊢
      have HNC := Lib.hid hnc
      clear hnc
      have HOC : Hid (OwnCs wo wa.heap.size (.slice A' cs.length c') cs) := by rw [HNC.out]; exact hO
      obtain ⟨⟨g0, g1, g2, g3, g4, g5, g6, g7⟩, g8, g9, g10, g11, g12, g13, g14, g15, g16, g17, g18, g19, g20, g21⟩ := HS2.out _ (Below.refl _ _)
      go_wp2_with fail
      refine CP.out.mono ?_
      rintro e y1 ⟨Aw, cw, he, hOw, hY1⟩
      rw [HNC.out] at he
      subst he
      have HOw := Lib.hid hOw
      clear hOw CP g0 g1 g2 g3 g4 g5 g6 g7 g8 g9 g10 g11 g12 g13 g14 g15 g16 g17 g18 g19 g20 g21
      obtain ⟨⟨g0, g1, g2, g3, g4, g5, g6, g7⟩, g8, g9, g10, g11, g12, g13, g14, g15, g16, g17, g18, g19, g20, g21⟩ := HS2.out _ hY1
      go_wp2_with fail
      refine (DO.out _ hY1).mono ?_
      rintro e y2 ⟨A1, c1, A2, c2, rfl, hO1, hO2, hY2⟩
      have HO1 := Lib.hid hO1
      have HO2 := Lib.hid hO2
      have hD : wo.heap.size ≤ y1.heap.size := hY1.size
      have hD2 : y1.heap.size ≤ y2.heap.size := hY2.size
      have HY12 : Hid (∀ wq, Below y2.heap.size y2 wq → Below wo.heap.size wo wq ∧ Below y1.heap.size y1 wq) := fun wq hq => ⟨(hY1.trans (hY2.mono hY1.size)).trans (hq.mono (by omega)), hY2.trans (hq.mono hD2)⟩
      clear hO1 hO2 DO g0 g1 g2 g3 g4 g5 g6 g7 g8 g9 g10 g11 g12 g13 g14 g15 g16 g17 g18 g19 g20 g21
      have p0 : Below y2.heap.size y2 y2.drew := (Below.refl _ _).drew
      go_upto_region 11 with (fail)
      refine wp_region_held_drew (S := fun wq => (wq.cell? ⟨w.heap.size, 0, none⟩ = some (.int .i64 ta.wall) ∧ wq.cell? ⟨w.heap.size, 1, none⟩ = some (.int .i64 ta.tie) ∧ wq.cell? ⟨w.heap.size + 1, 0, none⟩ = some (.string lo) ∧ wq.cell? ⟨w.heap.size + 1, 1, none⟩ = some (.string hi) ∧ wq.cell? ⟨w.heap.size + 2, 0, none⟩ = some (.int .i64 by_.node) ∧ wq.cell? ⟨w.heap.size + 2, 1, none⟩ = some (.int .i64 by_.life) ∧ wq.cell? ⟨w.heap.size + 2, 2, none⟩ = some (.int .i64 by_.seq) ∧ wq.cell? ⟨w.heap.size + 2, 3, none⟩ = some (.int .i64 by_.att)) ∧ wq.cell? ⟨b2, o + j * 14, none⟩ = some (.int .i64 x.kind) ∧ wq.cell? ⟨b2, o + j * 14 + 1, none⟩ = some (.string x.key) ∧ wq.cell? ⟨b2, o + j * 14 + 2, none⟩ = some (.bool x.drop) ∧ wq.cell? ⟨b2, o + j * 14 + 3, none⟩ = some (.string x.data) ∧ wq.cell? ⟨b2, o + j * 14 + 4, none⟩ = some (.int .i64 x.lk.by_.node) ∧ wq.cell? ⟨b2, o + j * 14 + 5, none⟩ = some (.int .i64 x.lk.by_.life) ∧ wq.cell? ⟨b2, o + j * 14 + 6, none⟩ = some (.int .i64 x.lk.by_.seq) ∧ wq.cell? ⟨b2, o + j * 14 + 7, none⟩ = some (.int .i64 x.lk.by_.att) ∧ wq.cell? ⟨b2, o + j * 14 + 8, none⟩ = some (.int .i64 x.lk.home) ∧ wq.cell? ⟨b2, o + j * 14 + 9, none⟩ = some (.int .i64 x.lk.at_.wall) ∧ wq.cell? ⟨b2, o + j * 14 + 10, none⟩ = some (.int .i64 x.lk.at_.tie) ∧ wq.cell? ⟨b2, o + j * 14 + 11, none⟩ = some (.bool x.lk.drop) ∧ wq.cell? ⟨b2, o + j * 14 + 12, none⟩ = some (.string x.lk.data) ∧ wq.cell? ⟨b2, o + j * 14 + 13, none⟩ = some (.bool x.yes)) (by kernel_rfl) ?s_0 (fun hHeld => ?_)
      case s_0 => exact HS2.out _ (HY12.out _ p0).1
      refine tk 0 { dst := some 59, op := .move (.tmp 16), type := 31, pos := "law.go:107", after := #[], guard := none } _ ?_
      try simp only [Act.put, List.setIfInBounds_toArray, List.set_cons_zero, List.set_cons_succ]
      refine tk 1 { dst := some 60, op := .move (.tmp 17), type := 31, pos := "law.go:107", after := #[], guard := none } _ ?_
      try simp only [Act.put, List.setIfInBounds_toArray, List.set_cons_zero, List.set_cons_succ]
      refine wpAnyH_ready (rs := [2]) (by kernel_rfl) (by simp) ?_
      refine AllReadyH.cons (o := { dst := some 61, op := .call { callee := .value (.func 15), args := #[.tmp 59, .tmp 60], argTypes := #[31, 31] }, type := 4, pos := "law.go:107", after := #[{ on := 0, ground := .data }, { on := 1, ground := .data }], guard := none }) rfl (fun KQ hKQ => ?_) AllReadyH.nil
      go_simp
      have hsm := own_same HO1.out p0 F1.out HO2.out p0 F1.out
      rw [decide_eq_true rfl] at hsm
      refine hsm.mono ?_
      rintro e z1 ⟨rfl, hZ1⟩
      have p1 := p0.trans (hZ1.mono p0.size)
      have r1 := HS2.out _ (HY12.out _ p1).1
      clear hsm
      go_wp2_with fail
      refine hKQ.out _ _ ?s_2 (fun hHeld2 => ?_)
      case s_2 => exact r1
      clear hKQ KQ
      try simp only [Act.put, List.setIfInBounds_toArray, List.set_cons_zero, List.set_cons_succ]
      refine tk 3 { dst := some 62, op := .unOp .not 4 (.tmp 61), type := 4, pos := "law.go:107", after := #[{ on := 2, ground := .data }], guard := none } _ ?_
      try simp only [Act.put, List.setIfInBounds_toArray, List.set_cons_zero, List.set_cons_succ]
      refine tk 4 { dst := some 63, op := .move (.tmp 62), type := 4, pos := "law.go:107", after := #[{ on := 3, ground := .data }, { on := 2, ground := .chain }], guard := none } _ ?_
      try simp only [Act.put, List.setIfInBounds_toArray, List.set_cons_zero, List.set_cons_succ]
      refine tk 5 { dst := some 64, op := .move (.tmp 13), type := 31, pos := "law.go:107", after := #[{ on := 4, ground := .guard }], guard := some (4, false) } _ ?_
      try simp only [Act.put, List.setIfInBounds_toArray, List.set_cons_zero, List.set_cons_succ]
      refine tk 6 { dst := some 65, op := .move (.tmp 15), type := 31, pos := "law.go:107", after := #[{ on := 4, ground := .guard }], guard := some (4, false) } _ ?_
      try simp only [Act.put, List.setIfInBounds_toArray, List.set_cons_zero, List.set_cons_succ]
      refine wpAnyH_ready (rs := [7]) (by kernel_rfl) (by simp) ?_
      refine AllReadyH.cons (o := { dst := some 66, op := .call { callee := .value (.func 15), args := #[.tmp 64, .tmp 65], argTypes := #[31, 31] }, type := 4, pos := "law.go:107", after := #[{ on := 5, ground := .data }, { on := 6, ground := .data }, { on := 4, ground := .chain }, { on := 4, ground := .guard }], guard := some (4, false) }) rfl (fun KQ hKQ => ?_) AllReadyH.nil
      go_simp
      have hsm := own_same HOC.out (HY12.out _ p1).1 F0.out HOw.out (HY12.out _ p1).2 F0.out
      rw [decide_eq_true rfl, HNC.out] at hsm
      refine hsm.mono ?_
      rintro e z2 ⟨rfl, hZ2⟩
      have p2 := p1.trans (hZ2.mono p1.size)
      have r2 := HS2.out _ (HY12.out _ p2).1
      clear hsm
      go_wp2_with fail
      refine hKQ.out _ _ ?s_7 (fun hHeld7 => ?_)
      case s_7 => exact r2
      clear hKQ KQ
      try simp only [Act.put, List.setIfInBounds_toArray, List.set_cons_zero, List.set_cons_succ]
      refine tk 8 { dst := some 67, op := .unOp .not 4 (.tmp 66), type := 4, pos := "law.go:107", after := #[{ on := 7, ground := .data }, { on := 4, ground := .guard }], guard := some (4, false) } _ ?_
      try simp only [Act.put, List.setIfInBounds_toArray, List.set_cons_zero, List.set_cons_succ]
      refine tk 9 { dst := some 68, op := .pick (.tmp 63) (.const (.bool true)) (.tmp 67), type := 4, pos := "law.go:107", after := #[{ on := 4, ground := .data }, { on := 8, ground := .data }], guard := none } _ ?_
      try simp only [Act.put, List.setIfInBounds_toArray, List.set_cons_zero, List.set_cons_succ]
      refine tk 10 { dst := some 69, op := .move (.tmp 68), type := 4, pos := "law.go:107", after := #[{ on := 9, ground := .data }, { on := 7, ground := .chain }], guard := none } _ ?_
      try simp only [Act.put, List.setIfInBounds_toArray, List.set_cons_zero, List.set_cons_succ]
      refine tk 11 { dst := some 70, op := .move (.tmp 16), type := 31, pos := "law.go:107", after := #[{ on := 10, ground := .guard }], guard := some (10, false) } _ ?_
      try simp only [Act.put, List.setIfInBounds_toArray, List.set_cons_zero, List.set_cons_succ]
      refine tk 12 { dst := some 71, op := .move (.tmp 1), type := 9, pos := "law.go:107", after := #[{ on := 10, ground := .guard }], guard := some (10, false) } _ ?_
      try simp only [Act.put, List.setIfInBounds_toArray, List.set_cons_zero, List.set_cons_succ]
      refine tk 13 { dst := some 72, op := .load 24 (.tmp 8), type := 24, pos := "law.go:107", after := #[{ on := 10, ground := .guard }], guard := some (10, false) } _ ?_
      try simp only [Act.put, List.setIfInBounds_toArray, List.set_cons_zero, List.set_cons_succ]
      refine tk 14 { dst := some 73, op := .load 26 (.tmp 9), type := 26, pos := "law.go:107", after := #[{ on := 10, ground := .guard }], guard := some (10, false) } _ ?_
      try simp only [Act.put, List.setIfInBounds_toArray, List.set_cons_zero, List.set_cons_succ]
      refine tk 15 { dst := some 74, op := .load 28 (.tmp 10), type := 28, pos := "law.go:107", after := #[{ on := 10, ground := .guard }], guard := some (10, false) } _ ?_
      try simp only [Act.put, List.setIfInBounds_toArray, List.set_cons_zero, List.set_cons_succ]
      refine tk 16 { dst := some 75, op := .move (.tmp 5), type := 3, pos := "law.go:107", after := #[{ on := 10, ground := .guard }], guard := some (10, false) } _ ?_
      try simp only [Act.put, List.setIfInBounds_toArray, List.set_cons_zero, List.set_cons_succ]
      refine wpAnyH_ready (rs := [17]) (by kernel_rfl) (by simp) ?_
      refine AllReadyH.cons (o := { dst := some 76, op := .call { callee := .value (.func 16), args := #[.tmp 70, .tmp 71, .tmp 72, .tmp 73, .tmp 74, .tmp 75], argTypes := #[31, 9, 24, 26, 28, 3] }, type := 4, pos := "law.go:107", after := #[{ on := 11, ground := .data }, { on := 12, ground := .data }, { on := 13, ground := .data }, { on := 14, ground := .data }, { on := 15, ground := .data }, { on := 16, ground := .data }, { on := 10, ground := .chain }, { on := 10, ground := .guard }], guard := some (10, false) }) rfl (fun KQ hKQ => ?_) AllReadyH.nil
      go_simp
      refine (own_told HO1.out p2 F1.out K1.out kk ta lo hi by_ most).mono ?_
      rintro e z3 ⟨rfl, hZ3⟩
      have p3 := p2.trans (hZ3.mono p2.size)
      have r3 := HS2.out _ (HY12.out _ p3).1
      go_wp2_with fail
      refine hKQ.out _ _ ?s_17 (fun hHeld17 => ?_)
      case s_17 => exact r3
      clear hKQ KQ
      try simp only [Act.put, List.setIfInBounds_toArray, List.set_cons_zero, List.set_cons_succ]
      refine tk 18 { dst := some 77, op := .unOp .not 4 (.tmp 76), type := 4, pos := "law.go:107", after := #[{ on := 17, ground := .data }, { on := 10, ground := .guard }], guard := some (10, false) } _ ?_
      try simp only [Act.put, List.setIfInBounds_toArray, List.set_cons_zero, List.set_cons_succ]
      refine tk 19 { dst := some 78, op := .pick (.tmp 69) (.const (.bool true)) (.tmp 77), type := 4, pos := "law.go:107", after := #[{ on := 10, ground := .data }, { on := 18, ground := .data }], guard := none } _ ?_
      try simp only [Act.put, List.setIfInBounds_toArray, List.set_cons_zero, List.set_cons_succ]
      refine tk 20 { dst := some 79, op := .move (.tmp 78), type := 4, pos := "law.go:107", after := #[{ on := 19, ground := .data }, { on := 17, ground := .chain }], guard := none } _ ?_
      try simp only [Act.put, List.setIfInBounds_toArray, List.set_cons_zero, List.set_cons_succ]
      refine tk 21 { dst := some 80, op := .move (.tmp 16), type := 31, pos := "law.go:107", after := #[{ on := 20, ground := .guard }], guard := some (20, false) } _ ?_
      try simp only [Act.put, List.setIfInBounds_toArray, List.set_cons_zero, List.set_cons_succ]
      refine tk 22 { dst := some 81, op := .move (.tmp 0), type := 22, pos := "law.go:107", after := #[{ on := 20, ground := .guard }], guard := some (20, false) } _ ?_
      try simp only [Act.put, List.setIfInBounds_toArray, List.set_cons_zero, List.set_cons_succ]
      refine tk 23 { dst := some 82, op := .move (.tmp 14), type := 3, pos := "law.go:107", after := #[{ on := 20, ground := .guard }], guard := some (20, false) } _ ?_
      try simp only [Act.put, List.setIfInBounds_toArray, List.set_cons_zero, List.set_cons_succ]
      refine tk 24 { dst := some 83, op := .indexAddr 22 (.tmp 81) (.tmp 82), type := 0, pos := "law.go:107", after := #[{ on := 22, ground := .data }, { on := 23, ground := .data }, { on := 20, ground := .guard }], guard := some (20, false) } _ ?_
      try simp only [Act.put, List.setIfInBounds_toArray, List.set_cons_zero, List.set_cons_succ]
      refine tk 25 { dst := some 84, op := .fieldAddr 40 (.tmp 83) 1, type := 0, pos := "law.go:107", after := #[{ on := 24, ground := .data }, { on := 20, ground := .guard }], guard := some (20, false) } _ ?_
      try simp only [Act.put, List.setIfInBounds_toArray, List.set_cons_zero, List.set_cons_succ]
      refine tk 26 { dst := some 85, op := .fieldAddr 36 (.tmp 84) 0, type := 0, pos := "law.go:107", after := #[{ on := 25, ground := .data }, { on := 20, ground := .guard }], guard := some (20, false) } _ ?_
      try simp only [Act.put, List.setIfInBounds_toArray, List.set_cons_zero, List.set_cons_succ]
      refine tk 27 { dst := some 86, op := .load 9 (.tmp 85), type := 9, pos := "law.go:107", after := #[{ on := 26, ground := .data }, { on := 20, ground := .guard }], guard := some (20, false) } _ ?_
      try simp only [Act.put, List.setIfInBounds_toArray, List.set_cons_zero, List.set_cons_succ]
      refine tk 28 { dst := some 87, op := .move (.tmp 0), type := 22, pos := "law.go:107", after := #[{ on := 20, ground := .guard }], guard := some (20, false) } _ ?_
      try simp only [Act.put, List.setIfInBounds_toArray, List.set_cons_zero, List.set_cons_succ]
      refine tk 29 { dst := some 88, op := .move (.tmp 14), type := 3, pos := "law.go:107", after := #[{ on := 20, ground := .guard }], guard := some (20, false) } _ ?_
      try simp only [Act.put, List.setIfInBounds_toArray, List.set_cons_zero, List.set_cons_succ]
      refine tk 30 { dst := some 89, op := .indexAddr 22 (.tmp 87) (.tmp 88), type := 0, pos := "law.go:107", after := #[{ on := 28, ground := .data }, { on := 29, ground := .data }, { on := 20, ground := .guard }], guard := some (20, false) } _ ?_
      try simp only [Act.put, List.setIfInBounds_toArray, List.set_cons_zero, List.set_cons_succ]
      refine tk 31 { dst := some 90, op := .fieldAddr 40 (.tmp 89) 2, type := 0, pos := "law.go:107", after := #[{ on := 30, ground := .data }, { on := 20, ground := .guard }], guard := some (20, false) } _ ?_
      try simp only [Act.put, List.setIfInBounds_toArray, List.set_cons_zero, List.set_cons_succ]
      refine tk 32 { dst := some 91, op := .fieldAddr 38 (.tmp 90) 2, type := 0, pos := "law.go:107", after := #[{ on := 31, ground := .data }, { on := 20, ground := .guard }], guard := some (20, false) } _ ?_
      try simp only [Act.put, List.setIfInBounds_toArray, List.set_cons_zero, List.set_cons_succ]
      refine tk 33 { dst := some 92, op := .load 24 (.tmp 91), type := 24, pos := "law.go:107", after := #[{ on := 32, ground := .data }, { on := 20, ground := .guard }], guard := some (20, false) } _ ?_
      try simp only [Act.put, List.setIfInBounds_toArray, List.set_cons_zero, List.set_cons_succ]
      refine tk 34 { dst := some 93, op := .load 26 (.tmp 9), type := 26, pos := "law.go:107", after := #[{ on := 20, ground := .guard }], guard := some (20, false) } _ ?_
      try simp only [Act.put, List.setIfInBounds_toArray, List.set_cons_zero, List.set_cons_succ]
      refine tk 35 { dst := some 94, op := .move (.tmp 0), type := 22, pos := "law.go:107", after := #[{ on := 20, ground := .guard }], guard := some (20, false) } _ ?_
      try simp only [Act.put, List.setIfInBounds_toArray, List.set_cons_zero, List.set_cons_succ]
      refine tk 36 { dst := some 95, op := .move (.tmp 14), type := 3, pos := "law.go:107", after := #[{ on := 20, ground := .guard }], guard := some (20, false) } _ ?_
      try simp only [Act.put, List.setIfInBounds_toArray, List.set_cons_zero, List.set_cons_succ]
      refine tk 37 { dst := some 96, op := .indexAddr 22 (.tmp 94) (.tmp 95), type := 0, pos := "law.go:107", after := #[{ on := 35, ground := .data }, { on := 36, ground := .data }, { on := 20, ground := .guard }], guard := some (20, false) } _ ?_
      try simp only [Act.put, List.setIfInBounds_toArray, List.set_cons_zero, List.set_cons_succ]
      refine tk 38 { dst := some 97, op := .fieldAddr 40 (.tmp 96) 2, type := 0, pos := "law.go:107", after := #[{ on := 37, ground := .data }, { on := 20, ground := .guard }], guard := some (20, false) } _ ?_
      try simp only [Act.put, List.setIfInBounds_toArray, List.set_cons_zero, List.set_cons_succ]
      refine tk 39 { dst := some 98, op := .fieldAddr 38 (.tmp 97) 0, type := 0, pos := "law.go:107", after := #[{ on := 38, ground := .data }, { on := 20, ground := .guard }], guard := some (20, false) } _ ?_
      try simp only [Act.put, List.setIfInBounds_toArray, List.set_cons_zero, List.set_cons_succ]
      refine tk 40 { dst := some 99, op := .load 28 (.tmp 98), type := 28, pos := "law.go:107", after := #[{ on := 39, ground := .data }, { on := 20, ground := .guard }], guard := some (20, false) } _ ?_
      try simp only [Act.put, List.setIfInBounds_toArray, List.set_cons_zero, List.set_cons_succ]
      refine wpAnyH_ready (rs := [41]) (by kernel_rfl) (by simp) ?_
      refine AllReadyH.cons (o := { dst := some 100, op := .call { callee := .value (.func 16), args := #[.tmp 80, .tmp 86, .tmp 92, .tmp 93, .tmp 99, .const (.int .i64 100)], argTypes := #[31, 9, 24, 26, 28, 3] }, type := 4, pos := "law.go:107", after := #[{ on := 21, ground := .data }, { on := 27, ground := .data }, { on := 33, ground := .data }, { on := 34, ground := .data }, { on := 40, ground := .data }, { on := 20, ground := .chain }, { on := 20, ground := .guard }], guard := some (20, false) }) rfl (fun KQ hKQ => ?_) AllReadyH.nil
      go_simp
      refine (own_told HO1.out p3 F1.out K1.out x.key x.lk.at_ lo hi x.lk.by_ 100).mono ?_
      rintro e z4 ⟨rfl, hZ4⟩
      have p4 := p3.trans (hZ4.mono p3.size)
      have r4 := HS2.out _ (HY12.out _ p4).1
      go_wp2_with fail
      refine hKQ.out _ _ ?s_41 (fun hHeld41 => ?_)
      case s_41 => exact r4
      clear hKQ KQ
      try simp only [Act.put, List.setIfInBounds_toArray, List.set_cons_zero, List.set_cons_succ]
      refine tk 42 { dst := some 101, op := .unOp .not 4 (.tmp 100), type := 4, pos := "law.go:107", after := #[{ on := 41, ground := .data }, { on := 20, ground := .guard }], guard := some (20, false) } _ ?_
      try simp only [Act.put, List.setIfInBounds_toArray, List.set_cons_zero, List.set_cons_succ]
      refine tk 43 { dst := some 102, op := .pick (.tmp 79) (.const (.bool true)) (.tmp 101), type := 4, pos := "law.go:107", after := #[{ on := 20, ground := .data }, { on := 42, ground := .data }], guard := none } _ ?_
      try simp only [Act.put, List.setIfInBounds_toArray, List.set_cons_zero, List.set_cons_succ]
      refine wpAnyH_done (by kernel_rfl) ?_ _
      obtain ⟨z0, hz0⟩ : ∃ z0, z0 = z4 := ⟨_, rfl⟩
      subst hz0
      have hZ := (HY12.out _ p4).1
      have hsz : y2.heap.size ≤ z0.heap.size := p4.size
      obtain ⟨g, hg⟩ : ∃ g : Nat, Hid (0 < nc → A' = some ⟨g, 0, none⟩) := by
        rcases Nat.eq_zero_or_pos nc with h0 | h0
        · exact ⟨0, fun h => by omega⟩
        · obtain ⟨g, _, _, _, _, e, _⟩ := own_shape hO.out hZ h0
          exact ⟨g, fun _ => e⟩
      have HSH := Lib.hid (fun k (hk : k < nc) => own_shape hO.out hZ hk)
      clear HS2 hO HOw HOC
      go_wp2_with fail
      go_loopw [18] (fun kv wz => ∃ k, k ≤ nc ∧ kv = .int .i64 (k : Nat) ∧ Alk wa.heap.size y1.heap.size z0 wz ∧ Hid (RowsK z0 wz g nc k)) (fun kv _ => nc - (intOf kv).toNat)
      case atStart => exact ⟨0, Nat.zero_le _, rfl, Alk.refl _ _ _, RowsK.refl _ _ _ _⟩
      case round =>
        obtain ⟨k, hk, rfl, hAlk, hRows⟩ := hrel
        by_cases hkk : k < nc
        · obtain ⟨g', As, len, cv, l, e1, hg1, hg2, hl12, hl1, hlc, hcm, hAt, hfz, hin⟩ := HSH.out k hkk
          have e2 := hg.out (by omega)
          rw [e1] at e2
          simp only [Option.some.injEq, Addr.mk.injEq, and_true] at e2
          obtain rfl := e2
          subst e1
          have HIN := Lib.hid hin
          have HAT := Lib.hid hAt
          have HLL : Hid (z0.cell? ⟨g', k * 12 + 1, none⟩ = some (.slice As len cv)) := (hAt 1 _ hl1)
          have HL12 := Lib.hid hl12
          have hgD : g' < y1.heap.size := by omega
          have hlen : len ≤ 9223372036854775807 := by unfold maxLen at hcm; omega
          have HFZ := Lib.hid hfz
          clear hin hAt hl1 hl12 hfz
          obtain ⟨wv, hwv⟩ : ∃ wv, wv = wr := ⟨_, rfl⟩
          subst hwv
          go_wp2_with fail
          go_loopw [19] (fun vv wy => ∃ v, v ≤ len ∧ vv = .int .i64 (v : Nat) ∧ Alk wa.heap.size y1.heap.size z0 wy ∧ Hid (RowsK z0 wy g' nc k)) (fun vv _ => len - (intOf vv).toNat)
          case atStart => exact ⟨0, Nat.zero_le _, rfl, hAlk, hRows⟩
          case round =>
            obtain ⟨v, hv, rfl, hAl, hRw⟩ := hrel
            have hrow : wr.cell? ⟨g', k * 12 + 1, none⟩ = some (.slice As len cv) := (hRw.out k (Nat.le_refl _) hkk).trans HLL.out
            by_cases hvv : v < len
            · obtain ⟨gi, oi, l4, rfl, hi1, hi2, hne, hl4, hA4, hf4⟩ := HIN.out v hvv
              obtain ⟨u0, u1, u2, u3, v0, v1, v2, v3⟩ := hAl.get4 hA4 hl4
              have df : ∀ q, wr.frozen? ⟨gi, q, none⟩ = false := fun q => (hAl.froz _).trans (hf4 q)
              have hAL2 := Lib.hid ((((hAl.put (j := oi + v * 4) hi1 (show gi < y1.heap.size by omega) (.int .i64 0)).put (j := oi + v * 4 + 1) hi1 (show gi < y1.heap.size by omega) (.int .i64 0)).put (j := oi + v * 4 + 2) hi1 (show gi < y1.heap.size by omega) (.bool false)).put (j := oi + v * 4 + 3) hi1 (show gi < y1.heap.size by omega) (.string { data := #[] }))
              have hRW2 := Lib.hid ((((hRw.out.other (j := oi + v * 4) hne (.int .i64 0)).other (j := oi + v * 4 + 1) hne (.int .i64 0)).other (j := oi + v * 4 + 2) hne (.bool false)).other (j := oi + v * 4 + 3) hne (.string { data := #[] }))
              clear hA4 hl4 hf4 hAl hRw
              go_wp2_with fail
              go_roundw
              case rel => exact ⟨v + 1, by omega, by go_num, hAL2.out, hRW2⟩
              case measure => simp [intOf]; omega
            · obtain rfl : v = len := by omega
              obtain ⟨u0, u1, u2, u3, u4, u5, u6, u7, u8, u9, u10, u11, v0, v1, v2, v3, v4, v5, v6, v7, v8, v9, v10, v11⟩ := hAl.get12 HAT.out HL12.out
              rw [hrow] at v1
              obtain rfl := Option.some.inj v1
              have df : ∀ q, wr.frozen? ⟨g', q, none⟩ = false := fun q => (hAl.froz _).trans (HFZ.out q)
              have hAL2 := Lib.hid ((((((((((((hAl.put (j := k * 12) hg1 hgD (.string { data := #[] })).put (j := k * 12 + 1) hg1 hgD (.slice none 0 0)).put (j := k * 12 + 2) hg1 hgD (.bool false)).put (j := k * 12 + 3) hg1 hgD (.int .i64 0)).put (j := k * 12 + 4) hg1 hgD (.int .i64 0)).put (j := k * 12 + 5) hg1 hgD (.int .i64 0)).put (j := k * 12 + 6) hg1 hgD (.int .i64 0)).put (j := k * 12 + 7) hg1 hgD (.int .i64 0)).put (j := k * 12 + 8) hg1 hgD (.int .i64 0)).put (j := k * 12 + 9) hg1 hgD (.int .i64 0)).put (j := k * 12 + 10) hg1 hgD (.bool false)).put (j := k * 12 + 11) hg1 hgD (.string { data := #[] }))
              have hRW2 := Lib.hid ((((((((((((hRw.out.next.own (j := k * 12) (by omega) (.string { data := #[] })).own (j := k * 12 + 1) (by omega) (.slice none 0 0)).own (j := k * 12 + 2) (by omega) (.bool false)).own (j := k * 12 + 3) (by omega) (.int .i64 0)).own (j := k * 12 + 4) (by omega) (.int .i64 0)).own (j := k * 12 + 5) (by omega) (.int .i64 0)).own (j := k * 12 + 6) (by omega) (.int .i64 0)).own (j := k * 12 + 7) (by omega) (.int .i64 0)).own (j := k * 12 + 8) (by omega) (.int .i64 0)).own (j := k * 12 + 9) (by omega) (.int .i64 0)).own (j := k * 12 + 10) (by omega) (.bool false)).own (j := k * 12 + 11) (by omega) (.string { data := #[] }))
              clear hAl hRw HAT
              go_wp2_with fail
              go_roundw
              case rel => exact ⟨k + 1, by omega, by go_num, hAL2.out, hRW2⟩
              case measure => simp [intOf]; omega
        · obtain rfl : k = nc := by omega
          have hX1 : Hid (OwnCs wr y1.heap.size (.slice A1 ds.length c1) ds) := (HO1.out.below p4).keep fun q hq _ => hAlk.heap q (.inr hq)
          have hX2 : Hid (OwnCs wr y1.heap.size (.slice A2 ds.length c2) ds) := (HO2.out.below p4).keep fun q hq _ => hAlk.heap q (.inr hq)
          have hBf := hBr.trans ((hZ.mono hsr).trans (hAlk.below (Nat.le_refl _)))
          have hszf := hAlk.size
          have HSM := Lib.hid (own_same hX1.out (Below.refl _ _) F1.out hX2.out (Below.refl _ _) F1.out)
          rw [decide_eq_true rfl] at HSM
          clear hAlk hRows hg HSH HO1 HO2 hX2
          go_wp2_with fail
          refine HSM.out.mono ?_
          rintro e y9 ⟨rfl, hY9⟩
          have hX9 : Hid (OwnCs y9 wa.heap.size (.slice A1 ds.length c1) ds) := (hX1.out.below hY9).more (by omega)
          have hB9 := hBf.trans (hY9.mono hBf.size)
          rw [← HDS.out] at hX9
          clear HSM hX1 hBf
          go_wp2_with fail
          go_roundw
          case rel => exact ⟨j + 1, _, A1, c1, by omega, by go_num, by rw [← HDS.out], rfl, hX9, hB9⟩
          case measure => simp [intOf]; omega
    · obtain rfl : j = n := by omega
      go_wp2_with fail
      go_ret
      exact ⟨rfl, hBwr⟩
end Go.Proofs.Ytlkhmpfdajefiaa.law8
