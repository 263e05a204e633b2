/- What the document's Blocks (antipoderef8) comes to. Conditions: those that each theorem names. -/
import Derived.Test.YtlkhmpfdajefiaaJoin1
namespace Go.Proofs.Ytlkhmpfdajefiaa.ref8
open Go Go.RowKit Go.Proofs.Ytlkhmpfdajefiaa.kit Go.Proofs.Ytlkhmpfdajefiaa.nums Go.Proofs.Ytlkhmpfdajefiaa.st Go.Proofs.Ytlkhmpfdajefiaa.mv
set_option linter.unusedVariables false

theorem blocks_step (cs : List CellL) (lo hi : ByteArray) (t : StL) (j : Nat) (x : CellL) (hx : cs[j]? = some x) : blocksF (cs.drop j) lo hi t = if inF x.key lo hi && x.locked && !lessF t x.lock.at_ then some x.lock else blocksF (cs.drop (j + 1)) lo hi t := by
  obtain ⟨hj, rfl⟩ := List.getElem?_eq_some_iff.1 hx
  rw [List.drop_eq_getElem_cons hj]
  unfold blocksF
  rw [List.find?_cons]
  split
  · rename_i h; rw [h]; rfl
  · rename_i h; rw [h]; rfl
set_option maxRecDepth 100000 in
set_option maxHeartbeats 2000000 in
theorem blocks_any (A : Option Addr) (n c : Nat) (cs : List CellL) (lo hi : ByteArray) (t : StL) (w : World) (B : Nat) (hR : RdC w B A n cs) (hB : B ≤ w.heap.size) (hb : n ≤ 1099511627776) :
    Calls Try.prog 34 #[.slice A n c, .agg #[.string lo, .string hi], .agg (stC t).toArray] w fun e w' => e = .returned (lkV (blocksF cs lo hi t)) ∧ Below w.heap.size w w' := by
  have HR := Lib.hid (fun j (hj : j < n) => hR.at_ hj)
  have HI := Lib.hid (blocks_step cs lo hi t)
  have HL := Lib.hid hR.1
  have IN := Lib.hid (fun (k : ByteArray) w => in_any k lo hi w)
  have LS := Lib.hid (fun (a : StL) w => ref6.less_any t a w)
  clear hR
  obtain ⟨z, hz⟩ : ∃ z, blocksF cs lo hi t = z := ⟨_, rfl⟩
  rw [hz]
  have HZ : Hid (z = blocksF (cs.drop 0) lo hi t) := hz.symm
  clear hz
  obtain ⟨tw, tt⟩ := t
  unfold stC
  unfold ref6.stV at LS
  dsimp only at LS ⊢
  have hB0 : Hid (Below w.heap.size w (((w.alloc (.cells #[.string lo, .string hi] 26)).alloc (.cells #[.int .i64 tw, .int .i64 tt] 24)).alloc (.cells #[.int .i64 0, .int .i64 0, .int .i64 0, .int .i64 0, .int .i64 0, .int .i64 0, .int .i64 0, .bool false, .string { data := #[] }] 38))) := ((((Below.refl _ _).alloc (Nat.le_refl _) _).alloc (by simp) _).alloc (by simp; omega) _)
  have k2 : Blk 38 (((w.alloc (.cells #[.string lo, .string hi] 26)).alloc (.cells #[.int .i64 tw, .int .i64 tt] 24)).alloc (.cells #[.int .i64 0, .int .i64 0, .int .i64 0, .int .i64 0, .int .i64 0, .int .i64 0, .int .i64 0, .bool false, .string { data := #[] }] 38)) (w.heap.size + 2) [.int .i64 0, .int .i64 0, .int .i64 0, .int .i64 0, .int .i64 0, .int .i64 0, .int .i64 0, .bool false, .string { data := #[] }] := by
    have := heap_alloc_new ((w.alloc (.cells #[.string lo, .string hi] 26)).alloc (.cells #[.int .i64 tw, .int .i64 tt] 24)) (.cells #[.int .i64 0, .int .i64 0, .int .i64 0, .int .i64 0, .int .i64 0, .int .i64 0, .int .i64 0, .bool false, .string { data := #[] }] 38)
    simpa [Blk] using this
  have HC : Hid (∀ wq, Below (((w.alloc (.cells #[.string lo, .string hi] 26)).alloc (.cells #[.int .i64 tw, .int .i64 tt] 24)).alloc (.cells #[.int .i64 0, .int .i64 0, .int .i64 0, .int .i64 0, .int .i64 0, .int .i64 0, .int .i64 0, .bool false, .string { data := #[] }] 38)).heap.size (((w.alloc (.cells #[.string lo, .string hi] 26)).alloc (.cells #[.int .i64 tw, .int .i64 tt] 24)).alloc (.cells #[.int .i64 0, .int .i64 0, .int .i64 0, .int .i64 0, .int .i64 0, .int .i64 0, .int .i64 0, .bool false, .string { data := #[] }] 38)) wq → wq.cell? ⟨w.heap.size, 0, none⟩ = some (.string lo) ∧ wq.cell? ⟨w.heap.size, 1, none⟩ = some (.string hi) ∧ wq.cell? ⟨w.heap.size + 1, 0, none⟩ = some (.int .i64 tw) ∧ wq.cell? ⟨w.heap.size + 1, 1, none⟩ = some (.int .i64 tt)) := fun wq hq => by
    have k0 : Blk 26 (((w.alloc (.cells #[.string lo, .string hi] 26)).alloc (.cells #[.int .i64 tw, .int .i64 tt] 24)).alloc (.cells #[.int .i64 0, .int .i64 0, .int .i64 0, .int .i64 0, .int .i64 0, .int .i64 0, .int .i64 0, .bool false, .string { data := #[] }] 38)) w.heap.size [.string lo, .string hi] := Blk.alloc (Blk.alloc (heap_alloc_new w _) _) _
    have k1 : Blk 24 (((w.alloc (.cells #[.string lo, .string hi] 26)).alloc (.cells #[.int .i64 tw, .int .i64 tt] 24)).alloc (.cells #[.int .i64 0, .int .i64 0, .int .i64 0, .int .i64 0, .int .i64 0, .int .i64 0, .int .i64 0, .bool false, .string { data := #[] }] 38)) (w.heap.size + 1) [.int .i64 tw, .int .i64 tt] := by
      have := Blk.alloc (E := 24) (cs := [.int .i64 tw, .int .i64 tt]) (heap_alloc_new (w.alloc (.cells #[.string lo, .string hi] 26)) _) (.cells #[.int .i64 0, .int .i64 0, .int .i64 0, .int .i64 0, .int .i64 0, .int .i64 0, .int .i64 0, .bool false, .string { data := #[] }] 38)
      simpa using this
    have j0 := k0.below hq k0.lt
    have j1 := k1.below hq k1.lt
    exact ⟨j0.cell 0, j0.cell 1, j1.cell 0, j1.cell 1⟩
  go_enter Try.func34, Try.ntmps34
  go_upto_region 1 with (fail)
  rw [show w.heap.size + 1 + 1 = w.heap.size + 2 by omega]
  generalize (((w.alloc (.cells #[.string lo, .string hi] 26)).alloc (.cells #[.int .i64 tw, .int .i64 tt] 24)).alloc (.cells #[.int .i64 0, .int .i64 0, .int .i64 0, .int .i64 0, .int .i64 0, .int .i64 0, .int .i64 0, .bool false, .string { data := #[] }] 38)) = w1 at *
  go_wp2_with fail
  go_loopw [8] (fun iv wr => ∃ j : Nat, j ≤ n ∧ iv = .int .i64 j ∧ Hid (z = blocksF (cs.drop j) lo hi ⟨tw, tt⟩) ∧ Below w1.heap.size w1 wr) (fun iv _ => n - (intOf iv).toNat)
  case atStart => exact ⟨0, Nat.zero_le _, rfl, HZ, Below.refl _ _⟩
  case round =>
    obtain ⟨j, hj, rfl, hI, hBr⟩ := hrel
    by_cases hlt : j < n
    · obtain ⟨b, o, x, sv, rfl, hbB, hx, hS, hA⟩ := HR.out j hlt
      have HS : Hid (∀ wq, Below w1.heap.size w1 wq → (wq.cell? ⟨w.heap.size, 0, none⟩ = some (.string lo) ∧ wq.cell? ⟨w.heap.size, 1, none⟩ = some (.string hi) ∧ wq.cell? ⟨w.heap.size + 1, 0, none⟩ = some (.int .i64 tw) ∧ wq.cell? ⟨w.heap.size + 1, 1, none⟩ = some (.int .i64 tt)) ∧ wq.cell? ⟨b, o + j * 12, none⟩ = some (.string x.key) ∧ wq.cell? ⟨b, o + j * 12 + 2, none⟩ = some (.bool x.locked) ∧ wq.cell? ⟨b, o + j * 12 + 8, none⟩ = some (.int .i64 x.lock.at_.wall) ∧ wq.cell? ⟨b, o + j * 12 + 9, none⟩ = some (.int .i64 x.lock.at_.tie)) := fun wq hq => by
        have hA2 : At wq b (o + j * 12) (cellC x sv) := hA.below (show b < w.heap.size by omega) (hB0.out.trans (hq.mono hB0.out.size))
        exact ⟨HC.out _ hq, hA2 0 _ rfl, hA2 2 _ rfl, hA2 8 _ rfl, hA2 9 _ rfl⟩
      have hI2 := Lib.hid (hI.out.trans (HI.out j x hx))
      have INx := Lib.hid (fun w => IN.out x.key w)
      have LSx := Lib.hid (fun w => LS.out x.lock.at_ w)
      have p0 : Below w1.heap.size w1 wr.drew := hBr.drew
      have HLK : Hid (∀ wq, Below w1.heap.size w1 wq → ∀ q, q < 12 → wq.cell? ⟨b, o + j * 12 + q, none⟩ = (cellC x sv)[q]?) := fun wq hq q hq12 => by
        have hA2 : At wq b (o + j * 12) (cellC x sv) := hA.below (show b < w.heap.size by omega) (hB0.out.trans (hq.mono hB0.out.size))
        have hlen : (cellC x sv).length = 12 := rfl
        rw [List.getElem?_eq_getElem (by omega)]
        exact hA2 q _ (List.getElem?_eq_getElem (by omega))
      clear hI hA hS hx
      generalize hin : inF x.key lo hi = bi at *
      generalize hlk : x.locked = bl at *
      generalize hle : lessF ⟨tw, tt⟩ x.lock.at_ = be at *
      rcases bi with _ | _
      · have hV : Hid (z = blocksF (cs.drop (j + 1)) lo hi ⟨tw, tt⟩) := by rw [hI2.out]; exact Lib.hid rfl
        go_upto_region 4 with (fail)
        refine wp_region_held_drew (S := fun wq => (wq.cell? ⟨w.heap.size, 0, none⟩ = some (.string lo) ∧ wq.cell? ⟨w.heap.size, 1, none⟩ = some (.string hi) ∧ wq.cell? ⟨w.heap.size + 1, 0, none⟩ = some (.int .i64 tw) ∧ wq.cell? ⟨w.heap.size + 1, 1, none⟩ = some (.int .i64 tt)) ∧ wq.cell? ⟨b, o + j * 12, none⟩ = some (.string x.key) ∧ wq.cell? ⟨b, o + j * 12 + 2, none⟩ = some (.bool bl) ∧ wq.cell? ⟨b, o + j * 12 + 8, none⟩ = some (.int .i64 x.lock.at_.wall) ∧ wq.cell? ⟨b, o + j * 12 + 9, none⟩ = some (.int .i64 x.lock.at_.tie)) (by kernel_rfl) ?s_0 (fun hHeld => ?_)
        case s_0 => exact HS.out _ p0
        refine tk 0 { dst := some 15, op := .move (.tmp 0), type := 31, pos := "ref.go:66", after := #[], guard := none } _ ?_
        try simp only [Act.put, List.setIfInBounds_toArray, List.set_cons_zero, List.set_cons_succ]
        refine tk 1 { dst := some 16, op := .move (.tmp 8), type := 3, pos := "ref.go:66", after := #[], guard := none } _ ?_
        try simp only [Act.put, List.setIfInBounds_toArray, List.set_cons_zero, List.set_cons_succ]
        refine tk 2 { dst := some 17, op := .indexAddr 31 (.tmp 15) (.tmp 16), type := 0, pos := "ref.go:66", after := #[{ on := 0, ground := .data }, { on := 1, ground := .data }], guard := none } _ ?_
        try simp only [Act.put, List.setIfInBounds_toArray, List.set_cons_zero, List.set_cons_succ]
        refine tk 3 { dst := some 18, op := .fieldAddr 45 (.tmp 17) 0, type := 0, pos := "ref.go:66", after := #[{ on := 2, ground := .data }], guard := none } _ ?_
        try simp only [Act.put, List.setIfInBounds_toArray, List.set_cons_zero, List.set_cons_succ]
        refine tk 4 { dst := some 19, op := .load 9 (.tmp 18), type := 9, pos := "ref.go:66", after := #[{ on := 3, ground := .data }], guard := none } _ ?_
        try simp only [Act.put, List.setIfInBounds_toArray, List.set_cons_zero, List.set_cons_succ]
        refine tk 5 { dst := some 20, op := .load 26 (.tmp 4), type := 26, pos := "ref.go:66", after := #[], guard := none } _ ?_
        try simp only [Act.put, List.setIfInBounds_toArray, List.set_cons_zero, List.set_cons_succ]
        refine wpAnyH_ready (rs := [6]) (by kernel_rfl) (by simp) ?_
        refine AllReadyH.cons (o := { dst := some 21, op := .call { callee := .value (.func 53), args := #[.tmp 19, .tmp 20], argTypes := #[9, 26] }, type := 4, pos := "ref.go:66", after := #[{ on := 4, ground := .data }, { on := 5, ground := .data }], guard := none }) rfl (fun KQ hKQ => ?_) AllReadyH.nil
        go_simp
        refine (INx.out _).mono ?_
        rintro e y1 ⟨rfl, hY1⟩
        have p1 := p0.trans (hY1.mono p0.size)
        have r1 := HS.out _ p1
        go_wp2_with fail
        refine hKQ.out _ _ ?s_6 (fun hHeld6 => ?_)
        case s_6 => exact r1
        clear hKQ KQ
        try simp only [Act.put, List.setIfInBounds_toArray, List.set_cons_zero, List.set_cons_succ]
        refine tk 7 { dst := some 22, op := .move (.tmp 21), type := 4, pos := "ref.go:66", after := #[{ on := 6, ground := .data }, { on := 6, ground := .chain }], guard := none } _ ?_
        try simp only [Act.put, List.setIfInBounds_toArray, List.set_cons_zero, List.set_cons_succ]
        refine tu 8 { dst := some 23, op := .move (.tmp 0), type := 31, pos := "ref.go:66", after := #[{ on := 7, ground := .guard }], guard := some (7, true) } ?_
        try simp only [Act.put, List.setIfInBounds_toArray, List.set_cons_zero, List.set_cons_succ]
        refine tu 9 { dst := some 24, op := .move (.tmp 8), type := 3, pos := "ref.go:66", after := #[{ on := 7, ground := .guard }], guard := some (7, true) } ?_
        try simp only [Act.put, List.setIfInBounds_toArray, List.set_cons_zero, List.set_cons_succ]
        refine tu 10 { dst := some 25, op := .indexAddr 31 (.tmp 23) (.tmp 24), type := 0, pos := "ref.go:66", after := #[{ on := 8, ground := .data }, { on := 9, ground := .data }, { on := 7, ground := .guard }], guard := some (7, true) } ?_
        try simp only [Act.put, List.setIfInBounds_toArray, List.set_cons_zero, List.set_cons_succ]
        refine tu 11 { dst := some 26, op := .fieldAddr 45 (.tmp 25) 2, type := 0, pos := "ref.go:66", after := #[{ on := 10, ground := .data }, { on := 7, ground := .guard }], guard := some (7, true) } ?_
        try simp only [Act.put, List.setIfInBounds_toArray, List.set_cons_zero, List.set_cons_succ]
        refine tu 12 { dst := some 27, op := .load 4 (.tmp 26), type := 4, pos := "ref.go:66", after := #[{ on := 11, ground := .data }, { on := 7, ground := .guard }], guard := some (7, true) } ?_
        try simp only [Act.put, List.setIfInBounds_toArray, List.set_cons_zero, List.set_cons_succ]
        refine tk 13 { dst := some 28, op := .pick (.tmp 22) (.tmp 27) (.const (.bool false)), type := 4, pos := "ref.go:66", after := #[{ on := 7, ground := .data }, { on := 12, ground := .data }], guard := none } _ ?_
        try simp only [Act.put, List.setIfInBounds_toArray, List.set_cons_zero, List.set_cons_succ]
        refine tk 14 { dst := some 29, op := .move (.tmp 28), type := 4, pos := "ref.go:66", after := #[{ on := 13, ground := .data }, { on := 7, ground := .chain }], guard := none } _ ?_
        try simp only [Act.put, List.setIfInBounds_toArray, List.set_cons_zero, List.set_cons_succ]
        refine tu 15 { dst := some 30, op := .load 24 (.tmp 5), type := 24, pos := "ref.go:66", after := #[{ on := 14, ground := .guard }], guard := some (14, true) } ?_
        try simp only [Act.put, List.setIfInBounds_toArray, List.set_cons_zero, List.set_cons_succ]
        refine tu 16 { dst := some 31, op := .move (.tmp 0), type := 31, pos := "ref.go:66", after := #[{ on := 14, ground := .guard }], guard := some (14, true) } ?_
        try simp only [Act.put, List.setIfInBounds_toArray, List.set_cons_zero, List.set_cons_succ]
        refine tu 17 { dst := some 32, op := .move (.tmp 8), type := 3, pos := "ref.go:66", after := #[{ on := 14, ground := .guard }], guard := some (14, true) } ?_
        try simp only [Act.put, List.setIfInBounds_toArray, List.set_cons_zero, List.set_cons_succ]
        refine tu 18 { dst := some 33, op := .indexAddr 31 (.tmp 31) (.tmp 32), type := 0, pos := "ref.go:66", after := #[{ on := 16, ground := .data }, { on := 17, ground := .data }, { on := 14, ground := .guard }], guard := some (14, true) } ?_
        try simp only [Act.put, List.setIfInBounds_toArray, List.set_cons_zero, List.set_cons_succ]
        refine tu 19 { dst := some 34, op := .fieldAddr 45 (.tmp 33) 3, type := 0, pos := "ref.go:66", after := #[{ on := 18, ground := .data }, { on := 14, ground := .guard }], guard := some (14, true) } ?_
        try simp only [Act.put, List.setIfInBounds_toArray, List.set_cons_zero, List.set_cons_succ]
        refine tu 20 { dst := some 35, op := .fieldAddr 38 (.tmp 34) 2, type := 0, pos := "ref.go:66", after := #[{ on := 19, ground := .data }, { on := 14, ground := .guard }], guard := some (14, true) } ?_
        try simp only [Act.put, List.setIfInBounds_toArray, List.set_cons_zero, List.set_cons_succ]
        refine tu 21 { dst := some 36, op := .load 24 (.tmp 35), type := 24, pos := "ref.go:66", after := #[{ on := 20, ground := .data }, { on := 14, ground := .guard }], guard := some (14, true) } ?_
        try simp only [Act.put, List.setIfInBounds_toArray, List.set_cons_zero, List.set_cons_succ]
        refine tu 22 { dst := some 37, op := .call { callee := .value (.func 21), args := #[.tmp 30, .tmp 36], argTypes := #[24, 24] }, type := 4, pos := "ref.go:66", after := #[{ on := 15, ground := .data }, { on := 21, ground := .data }, { on := 14, ground := .chain }, { on := 14, ground := .guard }], guard := some (14, true) } ?_
        try simp only [Act.put, List.setIfInBounds_toArray, List.set_cons_zero, List.set_cons_succ]
        refine tu 23 { dst := some 38, op := .unOp .not 4 (.tmp 37), type := 4, pos := "ref.go:66", after := #[{ on := 22, ground := .data }, { on := 14, ground := .guard }], guard := some (14, true) } ?_
        try simp only [Act.put, List.setIfInBounds_toArray, List.set_cons_zero, List.set_cons_succ]
        refine tk 24 { dst := some 39, op := .pick (.tmp 29) (.tmp 38) (.const (.bool false)), type := 4, pos := "ref.go:66", after := #[{ on := 14, ground := .data }, { on := 23, ground := .data }], guard := none } _ ?_
        try simp only [Act.put, List.setIfInBounds_toArray, List.set_cons_zero, List.set_cons_succ]
        refine wpAnyH_done (by kernel_rfl) ?_ _
        go_wp2_with fail
        go_roundw
        case rel => exact ⟨j + 1, by omega, by go_num, hV, p1⟩
        case measure => simp [intOf]; omega
      rcases bl with _ | _
      · have hV : Hid (z = blocksF (cs.drop (j + 1)) lo hi ⟨tw, tt⟩) := by rw [hI2.out]; exact Lib.hid rfl
        go_upto_region 4 with (fail)
        refine wp_region_held_drew (S := fun wq => (wq.cell? ⟨w.heap.size, 0, none⟩ = some (.string lo) ∧ wq.cell? ⟨w.heap.size, 1, none⟩ = some (.string hi) ∧ wq.cell? ⟨w.heap.size + 1, 0, none⟩ = some (.int .i64 tw) ∧ wq.cell? ⟨w.heap.size + 1, 1, none⟩ = some (.int .i64 tt)) ∧ wq.cell? ⟨b, o + j * 12, none⟩ = some (.string x.key) ∧ wq.cell? ⟨b, o + j * 12 + 2, none⟩ = some (.bool false) ∧ wq.cell? ⟨b, o + j * 12 + 8, none⟩ = some (.int .i64 x.lock.at_.wall) ∧ wq.cell? ⟨b, o + j * 12 + 9, none⟩ = some (.int .i64 x.lock.at_.tie)) (by kernel_rfl) ?s_0 (fun hHeld => ?_)
        case s_0 => exact HS.out _ p0
        refine tk 0 { dst := some 15, op := .move (.tmp 0), type := 31, pos := "ref.go:66", after := #[], guard := none } _ ?_
        try simp only [Act.put, List.setIfInBounds_toArray, List.set_cons_zero, List.set_cons_succ]
        refine tk 1 { dst := some 16, op := .move (.tmp 8), type := 3, pos := "ref.go:66", after := #[], guard := none } _ ?_
        try simp only [Act.put, List.setIfInBounds_toArray, List.set_cons_zero, List.set_cons_succ]
        refine tk 2 { dst := some 17, op := .indexAddr 31 (.tmp 15) (.tmp 16), type := 0, pos := "ref.go:66", after := #[{ on := 0, ground := .data }, { on := 1, ground := .data }], guard := none } _ ?_
        try simp only [Act.put, List.setIfInBounds_toArray, List.set_cons_zero, List.set_cons_succ]
        refine tk 3 { dst := some 18, op := .fieldAddr 45 (.tmp 17) 0, type := 0, pos := "ref.go:66", after := #[{ on := 2, ground := .data }], guard := none } _ ?_
        try simp only [Act.put, List.setIfInBounds_toArray, List.set_cons_zero, List.set_cons_succ]
        refine tk 4 { dst := some 19, op := .load 9 (.tmp 18), type := 9, pos := "ref.go:66", after := #[{ on := 3, ground := .data }], guard := none } _ ?_
        try simp only [Act.put, List.setIfInBounds_toArray, List.set_cons_zero, List.set_cons_succ]
        refine tk 5 { dst := some 20, op := .load 26 (.tmp 4), type := 26, pos := "ref.go:66", after := #[], guard := none } _ ?_
        try simp only [Act.put, List.setIfInBounds_toArray, List.set_cons_zero, List.set_cons_succ]
        refine wpAnyH_ready (rs := [6]) (by kernel_rfl) (by simp) ?_
        refine AllReadyH.cons (o := { dst := some 21, op := .call { callee := .value (.func 53), args := #[.tmp 19, .tmp 20], argTypes := #[9, 26] }, type := 4, pos := "ref.go:66", after := #[{ on := 4, ground := .data }, { on := 5, ground := .data }], guard := none }) rfl (fun KQ hKQ => ?_) AllReadyH.nil
        go_simp
        refine (INx.out _).mono ?_
        rintro e y1 ⟨rfl, hY1⟩
        have p1 := p0.trans (hY1.mono p0.size)
        have r1 := HS.out _ p1
        go_wp2_with fail
        refine hKQ.out _ _ ?s_6 (fun hHeld6 => ?_)
        case s_6 => exact r1
        clear hKQ KQ
        try simp only [Act.put, List.setIfInBounds_toArray, List.set_cons_zero, List.set_cons_succ]
        refine tk 7 { dst := some 22, op := .move (.tmp 21), type := 4, pos := "ref.go:66", after := #[{ on := 6, ground := .data }, { on := 6, ground := .chain }], guard := none } _ ?_
        try simp only [Act.put, List.setIfInBounds_toArray, List.set_cons_zero, List.set_cons_succ]
        refine tk 8 { dst := some 23, op := .move (.tmp 0), type := 31, pos := "ref.go:66", after := #[{ on := 7, ground := .guard }], guard := some (7, true) } _ ?_
        try simp only [Act.put, List.setIfInBounds_toArray, List.set_cons_zero, List.set_cons_succ]
        refine tk 9 { dst := some 24, op := .move (.tmp 8), type := 3, pos := "ref.go:66", after := #[{ on := 7, ground := .guard }], guard := some (7, true) } _ ?_
        try simp only [Act.put, List.setIfInBounds_toArray, List.set_cons_zero, List.set_cons_succ]
        refine tk 10 { dst := some 25, op := .indexAddr 31 (.tmp 23) (.tmp 24), type := 0, pos := "ref.go:66", after := #[{ on := 8, ground := .data }, { on := 9, ground := .data }, { on := 7, ground := .guard }], guard := some (7, true) } _ ?_
        try simp only [Act.put, List.setIfInBounds_toArray, List.set_cons_zero, List.set_cons_succ]
        refine tk 11 { dst := some 26, op := .fieldAddr 45 (.tmp 25) 2, type := 0, pos := "ref.go:66", after := #[{ on := 10, ground := .data }, { on := 7, ground := .guard }], guard := some (7, true) } _ ?_
        try simp only [Act.put, List.setIfInBounds_toArray, List.set_cons_zero, List.set_cons_succ]
        refine tk 12 { dst := some 27, op := .load 4 (.tmp 26), type := 4, pos := "ref.go:66", after := #[{ on := 11, ground := .data }, { on := 7, ground := .guard }], guard := some (7, true) } _ ?_
        try simp only [Act.put, List.setIfInBounds_toArray, List.set_cons_zero, List.set_cons_succ]
        refine tk 13 { dst := some 28, op := .pick (.tmp 22) (.tmp 27) (.const (.bool false)), type := 4, pos := "ref.go:66", after := #[{ on := 7, ground := .data }, { on := 12, ground := .data }], guard := none } _ ?_
        try simp only [Act.put, List.setIfInBounds_toArray, List.set_cons_zero, List.set_cons_succ]
        refine tk 14 { dst := some 29, op := .move (.tmp 28), type := 4, pos := "ref.go:66", after := #[{ on := 13, ground := .data }, { on := 7, ground := .chain }], guard := none } _ ?_
        try simp only [Act.put, List.setIfInBounds_toArray, List.set_cons_zero, List.set_cons_succ]
        refine tu 15 { dst := some 30, op := .load 24 (.tmp 5), type := 24, pos := "ref.go:66", after := #[{ on := 14, ground := .guard }], guard := some (14, true) } ?_
        try simp only [Act.put, List.setIfInBounds_toArray, List.set_cons_zero, List.set_cons_succ]
        refine tu 16 { dst := some 31, op := .move (.tmp 0), type := 31, pos := "ref.go:66", after := #[{ on := 14, ground := .guard }], guard := some (14, true) } ?_
        try simp only [Act.put, List.setIfInBounds_toArray, List.set_cons_zero, List.set_cons_succ]
        refine tu 17 { dst := some 32, op := .move (.tmp 8), type := 3, pos := "ref.go:66", after := #[{ on := 14, ground := .guard }], guard := some (14, true) } ?_
        try simp only [Act.put, List.setIfInBounds_toArray, List.set_cons_zero, List.set_cons_succ]
        refine tu 18 { dst := some 33, op := .indexAddr 31 (.tmp 31) (.tmp 32), type := 0, pos := "ref.go:66", after := #[{ on := 16, ground := .data }, { on := 17, ground := .data }, { on := 14, ground := .guard }], guard := some (14, true) } ?_
        try simp only [Act.put, List.setIfInBounds_toArray, List.set_cons_zero, List.set_cons_succ]
        refine tu 19 { dst := some 34, op := .fieldAddr 45 (.tmp 33) 3, type := 0, pos := "ref.go:66", after := #[{ on := 18, ground := .data }, { on := 14, ground := .guard }], guard := some (14, true) } ?_
        try simp only [Act.put, List.setIfInBounds_toArray, List.set_cons_zero, List.set_cons_succ]
        refine tu 20 { dst := some 35, op := .fieldAddr 38 (.tmp 34) 2, type := 0, pos := "ref.go:66", after := #[{ on := 19, ground := .data }, { on := 14, ground := .guard }], guard := some (14, true) } ?_
        try simp only [Act.put, List.setIfInBounds_toArray, List.set_cons_zero, List.set_cons_succ]
        refine tu 21 { dst := some 36, op := .load 24 (.tmp 35), type := 24, pos := "ref.go:66", after := #[{ on := 20, ground := .data }, { on := 14, ground := .guard }], guard := some (14, true) } ?_
        try simp only [Act.put, List.setIfInBounds_toArray, List.set_cons_zero, List.set_cons_succ]
        refine tu 22 { dst := some 37, op := .call { callee := .value (.func 21), args := #[.tmp 30, .tmp 36], argTypes := #[24, 24] }, type := 4, pos := "ref.go:66", after := #[{ on := 15, ground := .data }, { on := 21, ground := .data }, { on := 14, ground := .chain }, { on := 14, ground := .guard }], guard := some (14, true) } ?_
        try simp only [Act.put, List.setIfInBounds_toArray, List.set_cons_zero, List.set_cons_succ]
        refine tu 23 { dst := some 38, op := .unOp .not 4 (.tmp 37), type := 4, pos := "ref.go:66", after := #[{ on := 22, ground := .data }, { on := 14, ground := .guard }], guard := some (14, true) } ?_
        try simp only [Act.put, List.setIfInBounds_toArray, List.set_cons_zero, List.set_cons_succ]
        refine tk 24 { dst := some 39, op := .pick (.tmp 29) (.tmp 38) (.const (.bool false)), type := 4, pos := "ref.go:66", after := #[{ on := 14, ground := .data }, { on := 23, ground := .data }], guard := none } _ ?_
        try simp only [Act.put, List.setIfInBounds_toArray, List.set_cons_zero, List.set_cons_succ]
        refine wpAnyH_done (by kernel_rfl) ?_ _
        go_wp2_with fail
        go_roundw
        case rel => exact ⟨j + 1, by omega, by go_num, hV, p1⟩
        case measure => simp [intOf]; omega
      rcases be with _ | _
      · have hV : Hid (z = some x.lock) := by rw [hI2.out]; exact Lib.hid rfl
        go_upto_region 4 with (fail)
        refine wp_region_held_drew (S := fun wq => (wq.cell? ⟨w.heap.size, 0, none⟩ = some (.string lo) ∧ wq.cell? ⟨w.heap.size, 1, none⟩ = some (.string hi) ∧ wq.cell? ⟨w.heap.size + 1, 0, none⟩ = some (.int .i64 tw) ∧ wq.cell? ⟨w.heap.size + 1, 1, none⟩ = some (.int .i64 tt)) ∧ wq.cell? ⟨b, o + j * 12, none⟩ = some (.string x.key) ∧ wq.cell? ⟨b, o + j * 12 + 2, none⟩ = some (.bool true) ∧ wq.cell? ⟨b, o + j * 12 + 8, none⟩ = some (.int .i64 x.lock.at_.wall) ∧ wq.cell? ⟨b, o + j * 12 + 9, none⟩ = some (.int .i64 x.lock.at_.tie)) (by kernel_rfl) ?s_0 (fun hHeld => ?_)
        case s_0 => exact HS.out _ p0
        refine tk 0 { dst := some 15, op := .move (.tmp 0), type := 31, pos := "ref.go:66", after := #[], guard := none } _ ?_
        try simp only [Act.put, List.setIfInBounds_toArray, List.set_cons_zero, List.set_cons_succ]
        refine tk 1 { dst := some 16, op := .move (.tmp 8), type := 3, pos := "ref.go:66", after := #[], guard := none } _ ?_
        try simp only [Act.put, List.setIfInBounds_toArray, List.set_cons_zero, List.set_cons_succ]
        refine tk 2 { dst := some 17, op := .indexAddr 31 (.tmp 15) (.tmp 16), type := 0, pos := "ref.go:66", after := #[{ on := 0, ground := .data }, { on := 1, ground := .data }], guard := none } _ ?_
        try simp only [Act.put, List.setIfInBounds_toArray, List.set_cons_zero, List.set_cons_succ]
        refine tk 3 { dst := some 18, op := .fieldAddr 45 (.tmp 17) 0, type := 0, pos := "ref.go:66", after := #[{ on := 2, ground := .data }], guard := none } _ ?_
        try simp only [Act.put, List.setIfInBounds_toArray, List.set_cons_zero, List.set_cons_succ]
        refine tk 4 { dst := some 19, op := .load 9 (.tmp 18), type := 9, pos := "ref.go:66", after := #[{ on := 3, ground := .data }], guard := none } _ ?_
        try simp only [Act.put, List.setIfInBounds_toArray, List.set_cons_zero, List.set_cons_succ]
        refine tk 5 { dst := some 20, op := .load 26 (.tmp 4), type := 26, pos := "ref.go:66", after := #[], guard := none } _ ?_
        try simp only [Act.put, List.setIfInBounds_toArray, List.set_cons_zero, List.set_cons_succ]
        refine wpAnyH_ready (rs := [6]) (by kernel_rfl) (by simp) ?_
        refine AllReadyH.cons (o := { dst := some 21, op := .call { callee := .value (.func 53), args := #[.tmp 19, .tmp 20], argTypes := #[9, 26] }, type := 4, pos := "ref.go:66", after := #[{ on := 4, ground := .data }, { on := 5, ground := .data }], guard := none }) rfl (fun KQ hKQ => ?_) AllReadyH.nil
        go_simp
        refine (INx.out _).mono ?_
        rintro e y1 ⟨rfl, hY1⟩
        have p1 := p0.trans (hY1.mono p0.size)
        have r1 := HS.out _ p1
        go_wp2_with fail
        refine hKQ.out _ _ ?s_6 (fun hHeld6 => ?_)
        case s_6 => exact r1
        clear hKQ KQ
        try simp only [Act.put, List.setIfInBounds_toArray, List.set_cons_zero, List.set_cons_succ]
        refine tk 7 { dst := some 22, op := .move (.tmp 21), type := 4, pos := "ref.go:66", after := #[{ on := 6, ground := .data }, { on := 6, ground := .chain }], guard := none } _ ?_
        try simp only [Act.put, List.setIfInBounds_toArray, List.set_cons_zero, List.set_cons_succ]
        refine tk 8 { dst := some 23, op := .move (.tmp 0), type := 31, pos := "ref.go:66", after := #[{ on := 7, ground := .guard }], guard := some (7, true) } _ ?_
        try simp only [Act.put, List.setIfInBounds_toArray, List.set_cons_zero, List.set_cons_succ]
        refine tk 9 { dst := some 24, op := .move (.tmp 8), type := 3, pos := "ref.go:66", after := #[{ on := 7, ground := .guard }], guard := some (7, true) } _ ?_
        try simp only [Act.put, List.setIfInBounds_toArray, List.set_cons_zero, List.set_cons_succ]
        refine tk 10 { dst := some 25, op := .indexAddr 31 (.tmp 23) (.tmp 24), type := 0, pos := "ref.go:66", after := #[{ on := 8, ground := .data }, { on := 9, ground := .data }, { on := 7, ground := .guard }], guard := some (7, true) } _ ?_
        try simp only [Act.put, List.setIfInBounds_toArray, List.set_cons_zero, List.set_cons_succ]
        refine tk 11 { dst := some 26, op := .fieldAddr 45 (.tmp 25) 2, type := 0, pos := "ref.go:66", after := #[{ on := 10, ground := .data }, { on := 7, ground := .guard }], guard := some (7, true) } _ ?_
        try simp only [Act.put, List.setIfInBounds_toArray, List.set_cons_zero, List.set_cons_succ]
        refine tk 12 { dst := some 27, op := .load 4 (.tmp 26), type := 4, pos := "ref.go:66", after := #[{ on := 11, ground := .data }, { on := 7, ground := .guard }], guard := some (7, true) } _ ?_
        try simp only [Act.put, List.setIfInBounds_toArray, List.set_cons_zero, List.set_cons_succ]
        refine tk 13 { dst := some 28, op := .pick (.tmp 22) (.tmp 27) (.const (.bool false)), type := 4, pos := "ref.go:66", after := #[{ on := 7, ground := .data }, { on := 12, ground := .data }], guard := none } _ ?_
        try simp only [Act.put, List.setIfInBounds_toArray, List.set_cons_zero, List.set_cons_succ]
        refine tk 14 { dst := some 29, op := .move (.tmp 28), type := 4, pos := "ref.go:66", after := #[{ on := 13, ground := .data }, { on := 7, ground := .chain }], guard := none } _ ?_
        try simp only [Act.put, List.setIfInBounds_toArray, List.set_cons_zero, List.set_cons_succ]
        refine tk 15 { dst := some 30, op := .load 24 (.tmp 5), type := 24, pos := "ref.go:66", after := #[{ on := 14, ground := .guard }], guard := some (14, true) } _ ?_
        try simp only [Act.put, List.setIfInBounds_toArray, List.set_cons_zero, List.set_cons_succ]
        refine tk 16 { dst := some 31, op := .move (.tmp 0), type := 31, pos := "ref.go:66", after := #[{ on := 14, ground := .guard }], guard := some (14, true) } _ ?_
        try simp only [Act.put, List.setIfInBounds_toArray, List.set_cons_zero, List.set_cons_succ]
        refine tk 17 { dst := some 32, op := .move (.tmp 8), type := 3, pos := "ref.go:66", after := #[{ on := 14, ground := .guard }], guard := some (14, true) } _ ?_
        try simp only [Act.put, List.setIfInBounds_toArray, List.set_cons_zero, List.set_cons_succ]
        refine tk 18 { dst := some 33, op := .indexAddr 31 (.tmp 31) (.tmp 32), type := 0, pos := "ref.go:66", after := #[{ on := 16, ground := .data }, { on := 17, ground := .data }, { on := 14, ground := .guard }], guard := some (14, true) } _ ?_
        try simp only [Act.put, List.setIfInBounds_toArray, List.set_cons_zero, List.set_cons_succ]
        refine tk 19 { dst := some 34, op := .fieldAddr 45 (.tmp 33) 3, type := 0, pos := "ref.go:66", after := #[{ on := 18, ground := .data }, { on := 14, ground := .guard }], guard := some (14, true) } _ ?_
        try simp only [Act.put, List.setIfInBounds_toArray, List.set_cons_zero, List.set_cons_succ]
        refine tk 20 { dst := some 35, op := .fieldAddr 38 (.tmp 34) 2, type := 0, pos := "ref.go:66", after := #[{ on := 19, ground := .data }, { on := 14, ground := .guard }], guard := some (14, true) } _ ?_
        try simp only [Act.put, List.setIfInBounds_toArray, List.set_cons_zero, List.set_cons_succ]
        refine tk 21 { dst := some 36, op := .load 24 (.tmp 35), type := 24, pos := "ref.go:66", after := #[{ on := 20, ground := .data }, { on := 14, ground := .guard }], guard := some (14, true) } _ ?_
        try simp only [Act.put, List.setIfInBounds_toArray, List.set_cons_zero, List.set_cons_succ]
        refine wpAnyH_ready (rs := [22]) (by kernel_rfl) (by simp) ?_
        refine AllReadyH.cons (o := { dst := some 37, op := .call { callee := .value (.func 21), args := #[.tmp 30, .tmp 36], argTypes := #[24, 24] }, type := 4, pos := "ref.go:66", after := #[{ on := 15, ground := .data }, { on := 21, ground := .data }, { on := 14, ground := .chain }, { on := 14, ground := .guard }], guard := some (14, true) }) rfl (fun KQ hKQ => ?_) AllReadyH.nil
        go_simp
        refine (LSx.out _).mono ?_
        rintro e y2 ⟨rfl, hY2⟩
        have p2 := p1.trans (hY2.mono p1.size)
        have r2 := HS.out _ p2
        go_wp2_with fail
        refine hKQ.out _ _ ?s_22 (fun hHeld22 => ?_)
        case s_22 => exact r2
        clear hKQ KQ
        try simp only [Act.put, List.setIfInBounds_toArray, List.set_cons_zero, List.set_cons_succ]
        refine tk 23 { dst := some 38, op := .unOp .not 4 (.tmp 37), type := 4, pos := "ref.go:66", after := #[{ on := 22, ground := .data }, { on := 14, ground := .guard }], guard := some (14, true) } _ ?_
        try simp only [Act.put, List.setIfInBounds_toArray, List.set_cons_zero, List.set_cons_succ]
        refine tk 24 { dst := some 39, op := .pick (.tmp 29) (.tmp 38) (.const (.bool false)), type := 4, pos := "ref.go:66", after := #[{ on := 14, ground := .data }, { on := 23, ground := .data }], guard := none } _ ?_
        try simp only [Act.put, List.setIfInBounds_toArray, List.set_cons_zero, List.set_cons_succ]
        refine wpAnyH_done (by kernel_rfl) ?_ _
        have hL := HLK.out _ p2
        have l3 := hL 3 (by omega)
        have l4 := hL 4 (by omega)
        have l5 := hL 5 (by omega)
        have l6 := hL 6 (by omega)
        have l7 := hL 7 (by omega)
        have l8 := hL 8 (by omega)
        have l9 := hL 9 (by omega)
        have l10 := hL 10 (by omega)
        have l11 := hL 11 (by omega)
        simp only [cellC, List.getElem?_cons_zero, List.getElem?_cons_succ] at l3 l4 l5 l6 l7 l8 l9 l10 l11
        have hK := k2.below p2 k2.lt
        have d0 := hK.cell 0
        have d1 := hK.cell 1
        have d2 := hK.cell 2
        have d3 := hK.cell 3
        have d4 := hK.cell 4
        have d5 := hK.cell 5
        have d6 := hK.cell 6
        have d7 := hK.cell 7
        have d8 := hK.cell 8
        have df := fun i => hK.frozen i
        simp only [List.getElem?_cons_zero, List.getElem?_cons_succ] at d0 d1 d2 d3 d4 d5 d6 d7 d8
        clear hL
        go_wp2_with fail
        have sF := put9 hK (.int .i64 x.lock.by_.node) (.int .i64 x.lock.by_.life) (.int .i64 x.lock.by_.seq) (.int .i64 x.lock.by_.att) (.int .i64 x.lock.home) (.int .i64 x.lock.at_.wall) (.int .i64 x.lock.at_.tie) (.bool x.lock.drop) (.string x.lock.data)
        have hBf : Below w.heap.size w (((((((((y2.setCell ⟨w.heap.size + 2, 0, none⟩ (.int .i64 x.lock.by_.node)).setCell ⟨w.heap.size + 2, 1, none⟩ (.int .i64 x.lock.by_.life)).setCell ⟨w.heap.size + 2, 2, none⟩ (.int .i64 x.lock.by_.seq)).setCell ⟨w.heap.size + 2, 3, none⟩ (.int .i64 x.lock.by_.att)).setCell ⟨w.heap.size + 2, 4, none⟩ (.int .i64 x.lock.home)).setCell ⟨w.heap.size + 2, 5, none⟩ (.int .i64 x.lock.at_.wall)).setCell ⟨w.heap.size + 2, 6, none⟩ (.int .i64 x.lock.at_.tie)).setCell ⟨w.heap.size + 2, 7, none⟩ (.bool x.lock.drop)).setCell ⟨w.heap.size + 2, 8, none⟩ (.string x.lock.data)) := ((((((((((hB0.out.trans (p2.mono hB0.out.size)).setCell (p := ⟨w.heap.size + 2, 0, none⟩) (show w.heap.size ≤ w.heap.size + 2 by omega) _).setCell (p := ⟨w.heap.size + 2, 1, none⟩) (show w.heap.size ≤ w.heap.size + 2 by omega) _).setCell (p := ⟨w.heap.size + 2, 2, none⟩) (show w.heap.size ≤ w.heap.size + 2 by omega) _).setCell (p := ⟨w.heap.size + 2, 3, none⟩) (show w.heap.size ≤ w.heap.size + 2 by omega) _).setCell (p := ⟨w.heap.size + 2, 4, none⟩) (show w.heap.size ≤ w.heap.size + 2 by omega) _).setCell (p := ⟨w.heap.size + 2, 5, none⟩) (show w.heap.size ≤ w.heap.size + 2 by omega) _).setCell (p := ⟨w.heap.size + 2, 6, none⟩) (show w.heap.size ≤ w.heap.size + 2 by omega) _).setCell (p := ⟨w.heap.size + 2, 7, none⟩) (show w.heap.size ≤ w.heap.size + 2 by omega) _).setCell (p := ⟨w.heap.size + 2, 8, none⟩) (show w.heap.size ≤ w.heap.size + 2 by omega) _)
        generalize (((((((((y2.setCell ⟨w.heap.size + 2, 0, none⟩ (.int .i64 x.lock.by_.node)).setCell ⟨w.heap.size + 2, 1, none⟩ (.int .i64 x.lock.by_.life)).setCell ⟨w.heap.size + 2, 2, none⟩ (.int .i64 x.lock.by_.seq)).setCell ⟨w.heap.size + 2, 3, none⟩ (.int .i64 x.lock.by_.att)).setCell ⟨w.heap.size + 2, 4, none⟩ (.int .i64 x.lock.home)).setCell ⟨w.heap.size + 2, 5, none⟩ (.int .i64 x.lock.at_.wall)).setCell ⟨w.heap.size + 2, 6, none⟩ (.int .i64 x.lock.at_.tie)).setCell ⟨w.heap.size + 2, 7, none⟩ (.bool x.lock.drop)).setCell ⟨w.heap.size + 2, 8, none⟩ (.string x.lock.data)) = wf at *
        have e0 := sF.cell 0
        have e1 := sF.cell 1
        have e2 := sF.cell 2
        have e3 := sF.cell 3
        have e4 := sF.cell 4
        have e5 := sF.cell 5
        have e6 := sF.cell 6
        have e7 := sF.cell 7
        have e8 := sF.cell 8
        simp only [List.getElem?_cons_zero, List.getElem?_cons_succ] at e0 e1 e2 e3 e4 e5 e6 e7 e8
        (try simp only [Exit.inBlock, Exit.then])
        show bodyPost Try.prog Try.f34 _ Exit.ret _ wf
        refine bodyPost_ret (by simp [results, Try.results34, go_sem, e0, e1, e2, e3, e4, e5, e6, e7, e8]; try rfl) rfl ?_
        exact ⟨by rw [hV.out]; rfl, hBf⟩
      · have hV : Hid (z = blocksF (cs.drop (j + 1)) lo hi ⟨tw, tt⟩) := by rw [hI2.out]; exact Lib.hid rfl
        go_upto_region 4 with (fail)
        refine wp_region_held_drew (S := fun wq => (wq.cell? ⟨w.heap.size, 0, none⟩ = some (.string lo) ∧ wq.cell? ⟨w.heap.size, 1, none⟩ = some (.string hi) ∧ wq.cell? ⟨w.heap.size + 1, 0, none⟩ = some (.int .i64 tw) ∧ wq.cell? ⟨w.heap.size + 1, 1, none⟩ = some (.int .i64 tt)) ∧ wq.cell? ⟨b, o + j * 12, none⟩ = some (.string x.key) ∧ wq.cell? ⟨b, o + j * 12 + 2, none⟩ = some (.bool true) ∧ wq.cell? ⟨b, o + j * 12 + 8, none⟩ = some (.int .i64 x.lock.at_.wall) ∧ wq.cell? ⟨b, o + j * 12 + 9, none⟩ = some (.int .i64 x.lock.at_.tie)) (by kernel_rfl) ?s_0 (fun hHeld => ?_)
        case s_0 => exact HS.out _ p0
        refine tk 0 { dst := some 15, op := .move (.tmp 0), type := 31, pos := "ref.go:66", after := #[], guard := none } _ ?_
        try simp only [Act.put, List.setIfInBounds_toArray, List.set_cons_zero, List.set_cons_succ]
        refine tk 1 { dst := some 16, op := .move (.tmp 8), type := 3, pos := "ref.go:66", after := #[], guard := none } _ ?_
        try simp only [Act.put, List.setIfInBounds_toArray, List.set_cons_zero, List.set_cons_succ]
        refine tk 2 { dst := some 17, op := .indexAddr 31 (.tmp 15) (.tmp 16), type := 0, pos := "ref.go:66", after := #[{ on := 0, ground := .data }, { on := 1, ground := .data }], guard := none } _ ?_
        try simp only [Act.put, List.setIfInBounds_toArray, List.set_cons_zero, List.set_cons_succ]
        refine tk 3 { dst := some 18, op := .fieldAddr 45 (.tmp 17) 0, type := 0, pos := "ref.go:66", after := #[{ on := 2, ground := .data }], guard := none } _ ?_
        try simp only [Act.put, List.setIfInBounds_toArray, List.set_cons_zero, List.set_cons_succ]
        refine tk 4 { dst := some 19, op := .load 9 (.tmp 18), type := 9, pos := "ref.go:66", after := #[{ on := 3, ground := .data }], guard := none } _ ?_
        try simp only [Act.put, List.setIfInBounds_toArray, List.set_cons_zero, List.set_cons_succ]
        refine tk 5 { dst := some 20, op := .load 26 (.tmp 4), type := 26, pos := "ref.go:66", after := #[], guard := none } _ ?_
        try simp only [Act.put, List.setIfInBounds_toArray, List.set_cons_zero, List.set_cons_succ]
        refine wpAnyH_ready (rs := [6]) (by kernel_rfl) (by simp) ?_
        refine AllReadyH.cons (o := { dst := some 21, op := .call { callee := .value (.func 53), args := #[.tmp 19, .tmp 20], argTypes := #[9, 26] }, type := 4, pos := "ref.go:66", after := #[{ on := 4, ground := .data }, { on := 5, ground := .data }], guard := none }) rfl (fun KQ hKQ => ?_) AllReadyH.nil
        go_simp
        refine (INx.out _).mono ?_
        rintro e y1 ⟨rfl, hY1⟩
        have p1 := p0.trans (hY1.mono p0.size)
        have r1 := HS.out _ p1
        go_wp2_with fail
        refine hKQ.out _ _ ?s_6 (fun hHeld6 => ?_)
        case s_6 => exact r1
        clear hKQ KQ
        try simp only [Act.put, List.setIfInBounds_toArray, List.set_cons_zero, List.set_cons_succ]
        refine tk 7 { dst := some 22, op := .move (.tmp 21), type := 4, pos := "ref.go:66", after := #[{ on := 6, ground := .data }, { on := 6, ground := .chain }], guard := none } _ ?_
        try simp only [Act.put, List.setIfInBounds_toArray, List.set_cons_zero, List.set_cons_succ]
        refine tk 8 { dst := some 23, op := .move (.tmp 0), type := 31, pos := "ref.go:66", after := #[{ on := 7, ground := .guard }], guard := some (7, true) } _ ?_
        try simp only [Act.put, List.setIfInBounds_toArray, List.set_cons_zero, List.set_cons_succ]
        refine tk 9 { dst := some 24, op := .move (.tmp 8), type := 3, pos := "ref.go:66", after := #[{ on := 7, ground := .guard }], guard := some (7, true) } _ ?_
        try simp only [Act.put, List.setIfInBounds_toArray, List.set_cons_zero, List.set_cons_succ]
        refine tk 10 { dst := some 25, op := .indexAddr 31 (.tmp 23) (.tmp 24), type := 0, pos := "ref.go:66", after := #[{ on := 8, ground := .data }, { on := 9, ground := .data }, { on := 7, ground := .guard }], guard := some (7, true) } _ ?_
        try simp only [Act.put, List.setIfInBounds_toArray, List.set_cons_zero, List.set_cons_succ]
        refine tk 11 { dst := some 26, op := .fieldAddr 45 (.tmp 25) 2, type := 0, pos := "ref.go:66", after := #[{ on := 10, ground := .data }, { on := 7, ground := .guard }], guard := some (7, true) } _ ?_
        try simp only [Act.put, List.setIfInBounds_toArray, List.set_cons_zero, List.set_cons_succ]
        refine tk 12 { dst := some 27, op := .load 4 (.tmp 26), type := 4, pos := "ref.go:66", after := #[{ on := 11, ground := .data }, { on := 7, ground := .guard }], guard := some (7, true) } _ ?_
        try simp only [Act.put, List.setIfInBounds_toArray, List.set_cons_zero, List.set_cons_succ]
        refine tk 13 { dst := some 28, op := .pick (.tmp 22) (.tmp 27) (.const (.bool false)), type := 4, pos := "ref.go:66", after := #[{ on := 7, ground := .data }, { on := 12, ground := .data }], guard := none } _ ?_
        try simp only [Act.put, List.setIfInBounds_toArray, List.set_cons_zero, List.set_cons_succ]
        refine tk 14 { dst := some 29, op := .move (.tmp 28), type := 4, pos := "ref.go:66", after := #[{ on := 13, ground := .data }, { on := 7, ground := .chain }], guard := none } _ ?_
        try simp only [Act.put, List.setIfInBounds_toArray, List.set_cons_zero, List.set_cons_succ]
        refine tk 15 { dst := some 30, op := .load 24 (.tmp 5), type := 24, pos := "ref.go:66", after := #[{ on := 14, ground := .guard }], guard := some (14, true) } _ ?_
        try simp only [Act.put, List.setIfInBounds_toArray, List.set_cons_zero, List.set_cons_succ]
        refine tk 16 { dst := some 31, op := .move (.tmp 0), type := 31, pos := "ref.go:66", after := #[{ on := 14, ground := .guard }], guard := some (14, true) } _ ?_
        try simp only [Act.put, List.setIfInBounds_toArray, List.set_cons_zero, List.set_cons_succ]
        refine tk 17 { dst := some 32, op := .move (.tmp 8), type := 3, pos := "ref.go:66", after := #[{ on := 14, ground := .guard }], guard := some (14, true) } _ ?_
        try simp only [Act.put, List.setIfInBounds_toArray, List.set_cons_zero, List.set_cons_succ]
        refine tk 18 { dst := some 33, op := .indexAddr 31 (.tmp 31) (.tmp 32), type := 0, pos := "ref.go:66", after := #[{ on := 16, ground := .data }, { on := 17, ground := .data }, { on := 14, ground := .guard }], guard := some (14, true) } _ ?_
        try simp only [Act.put, List.setIfInBounds_toArray, List.set_cons_zero, List.set_cons_succ]
        refine tk 19 { dst := some 34, op := .fieldAddr 45 (.tmp 33) 3, type := 0, pos := "ref.go:66", after := #[{ on := 18, ground := .data }, { on := 14, ground := .guard }], guard := some (14, true) } _ ?_
        try simp only [Act.put, List.setIfInBounds_toArray, List.set_cons_zero, List.set_cons_succ]
        refine tk 20 { dst := some 35, op := .fieldAddr 38 (.tmp 34) 2, type := 0, pos := "ref.go:66", after := #[{ on := 19, ground := .data }, { on := 14, ground := .guard }], guard := some (14, true) } _ ?_
        try simp only [Act.put, List.setIfInBounds_toArray, List.set_cons_zero, List.set_cons_succ]
        refine tk 21 { dst := some 36, op := .load 24 (.tmp 35), type := 24, pos := "ref.go:66", after := #[{ on := 20, ground := .data }, { on := 14, ground := .guard }], guard := some (14, true) } _ ?_
        try simp only [Act.put, List.setIfInBounds_toArray, List.set_cons_zero, List.set_cons_succ]
        refine wpAnyH_ready (rs := [22]) (by kernel_rfl) (by simp) ?_
        refine AllReadyH.cons (o := { dst := some 37, op := .call { callee := .value (.func 21), args := #[.tmp 30, .tmp 36], argTypes := #[24, 24] }, type := 4, pos := "ref.go:66", after := #[{ on := 15, ground := .data }, { on := 21, ground := .data }, { on := 14, ground := .chain }, { on := 14, ground := .guard }], guard := some (14, true) }) rfl (fun KQ hKQ => ?_) AllReadyH.nil
        go_simp
        refine (LSx.out _).mono ?_
        rintro e y2 ⟨rfl, hY2⟩
        have p2 := p1.trans (hY2.mono p1.size)
        have r2 := HS.out _ p2
        go_wp2_with fail
        refine hKQ.out _ _ ?s_22 (fun hHeld22 => ?_)
        case s_22 => exact r2
        clear hKQ KQ
        try simp only [Act.put, List.setIfInBounds_toArray, List.set_cons_zero, List.set_cons_succ]
        refine tk 23 { dst := some 38, op := .unOp .not 4 (.tmp 37), type := 4, pos := "ref.go:66", after := #[{ on := 22, ground := .data }, { on := 14, ground := .guard }], guard := some (14, true) } _ ?_
        try simp only [Act.put, List.setIfInBounds_toArray, List.set_cons_zero, List.set_cons_succ]
        refine tk 24 { dst := some 39, op := .pick (.tmp 29) (.tmp 38) (.const (.bool false)), type := 4, pos := "ref.go:66", after := #[{ on := 14, ground := .data }, { on := 23, ground := .data }], guard := none } _ ?_
        try simp only [Act.put, List.setIfInBounds_toArray, List.set_cons_zero, List.set_cons_succ]
        refine wpAnyH_done (by kernel_rfl) ?_ _
        go_wp2_with fail
        go_roundw
        case rel => exact ⟨j + 1, by omega, by go_num, hV, p2⟩
        case measure => simp [intOf]; omega
    · obtain rfl : j = n := by omega
      have hV : Hid (z = none) := by rw [hI.out, List.drop_of_length_le (by rw [HL.out]; exact Nat.le_refl _)]; exact Lib.hid rfl
      have hK := k2.below hBr k2.lt
      have d0 := hK.cell 0
      have d1 := hK.cell 1
      have d2 := hK.cell 2
      have d3 := hK.cell 3
      have d4 := hK.cell 4
      have d5 := hK.cell 5
      have d6 := hK.cell 6
      have d7 := hK.cell 7
      have d8 := hK.cell 8
      have df := fun i => hK.frozen i
      simp only [List.getElem?_cons_zero, List.getElem?_cons_succ] at d0 d1 d2 d3 d4 d5 d6 d7 d8
      go_wp2_with fail
      have sF := put9 hK (.int .i64 0) (.int .i64 0) (.int .i64 0) (.int .i64 0) (.int .i64 0) (.int .i64 0) (.int .i64 0) (.bool false) (.string { data := #[] })
      have hBf : Below w.heap.size w (((((((((wr.setCell ⟨w.heap.size + 2, 0, none⟩ (.int .i64 0)).setCell ⟨w.heap.size + 2, 1, none⟩ (.int .i64 0)).setCell ⟨w.heap.size + 2, 2, none⟩ (.int .i64 0)).setCell ⟨w.heap.size + 2, 3, none⟩ (.int .i64 0)).setCell ⟨w.heap.size + 2, 4, none⟩ (.int .i64 0)).setCell ⟨w.heap.size + 2, 5, none⟩ (.int .i64 0)).setCell ⟨w.heap.size + 2, 6, none⟩ (.int .i64 0)).setCell ⟨w.heap.size + 2, 7, none⟩ (.bool false)).setCell ⟨w.heap.size + 2, 8, none⟩ (.string { data := #[] })) := ((((((((((hB0.out.trans (hBr.mono hB0.out.size)).setCell (p := ⟨w.heap.size + 2, 0, none⟩) (show w.heap.size ≤ w.heap.size + 2 by omega) _).setCell (p := ⟨w.heap.size + 2, 1, none⟩) (show w.heap.size ≤ w.heap.size + 2 by omega) _).setCell (p := ⟨w.heap.size + 2, 2, none⟩) (show w.heap.size ≤ w.heap.size + 2 by omega) _).setCell (p := ⟨w.heap.size + 2, 3, none⟩) (show w.heap.size ≤ w.heap.size + 2 by omega) _).setCell (p := ⟨w.heap.size + 2, 4, none⟩) (show w.heap.size ≤ w.heap.size + 2 by omega) _).setCell (p := ⟨w.heap.size + 2, 5, none⟩) (show w.heap.size ≤ w.heap.size + 2 by omega) _).setCell (p := ⟨w.heap.size + 2, 6, none⟩) (show w.heap.size ≤ w.heap.size + 2 by omega) _).setCell (p := ⟨w.heap.size + 2, 7, none⟩) (show w.heap.size ≤ w.heap.size + 2 by omega) _).setCell (p := ⟨w.heap.size + 2, 8, none⟩) (show w.heap.size ≤ w.heap.size + 2 by omega) _)
      generalize (((((((((wr.setCell ⟨w.heap.size + 2, 0, none⟩ (.int .i64 0)).setCell ⟨w.heap.size + 2, 1, none⟩ (.int .i64 0)).setCell ⟨w.heap.size + 2, 2, none⟩ (.int .i64 0)).setCell ⟨w.heap.size + 2, 3, none⟩ (.int .i64 0)).setCell ⟨w.heap.size + 2, 4, none⟩ (.int .i64 0)).setCell ⟨w.heap.size + 2, 5, none⟩ (.int .i64 0)).setCell ⟨w.heap.size + 2, 6, none⟩ (.int .i64 0)).setCell ⟨w.heap.size + 2, 7, none⟩ (.bool false)).setCell ⟨w.heap.size + 2, 8, none⟩ (.string { data := #[] })) = wf at *
      have e0 := sF.cell 0
      have e1 := sF.cell 1
      have e2 := sF.cell 2
      have e3 := sF.cell 3
      have e4 := sF.cell 4
      have e5 := sF.cell 5
      have e6 := sF.cell 6
      have e7 := sF.cell 7
      have e8 := sF.cell 8
      simp only [List.getElem?_cons_zero, List.getElem?_cons_succ] at e0 e1 e2 e3 e4 e5 e6 e7 e8
      (try simp only [Exit.inBlock, Exit.then])
      show bodyPost Try.prog Try.f34 _ Exit.ret _ wf
      refine bodyPost_ret (by simp [results, Try.results34, go_sem, e0, e1, e2, e3, e4, e5, e6, e7, e8]; try rfl) rfl ?_
      exact ⟨by rw [hV.out]; rfl, hBf⟩
end Go.Proofs.Ytlkhmpfdajefiaa.ref8
