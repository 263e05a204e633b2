/- The statements' own number, light and do (stage 8). Conditions: few cells, few versions, cells that may be. -/
import Derived.Test.YtlkhmpfdajefiaaJoin1
import Derived.Test.YtlkhmpfdajefiaaMvcL
import Derived.Test.YtlkhmpfdajefiaaMvcD
import Derived.Test.YtlkhmpfdajefiaaMvcN
import Derived.Test.YtlkhmpfdajefiaaMvcT
import Derived.Test.YtlkhmpfdajefiaaRef8h
import Derived.Test.YtlkhmpfdajefiaaRef8i
namespace Go.Proofs.Ytlkhmpfdajefiaa.law8
open Go Go.RowKit Go.Proofs.Ytlkhmpfdajefiaa.kit Go.Proofs.Ytlkhmpfdajefiaa.nums Go.Proofs.Ytlkhmpfdajefiaa.st Go.Proofs.Ytlkhmpfdajefiaa.mv Go.Proofs.Ytlkhmpfdajefiaa.ref8
set_option linter.unusedVariables false

theorem wrap64_small {x : Int} (h1 : -1000 < x) (h2 : x < 1000) : wrap64 x = x := by
  unfold wrap64
  omega
theorem number_any (k : Int) (w : World) : Calls Try.prog 28 #[.int .i64 k] w fun e w' => e = .returned (.int .i64 (numF k)) ∧ w = w' := by
  have h1 := Int.tmod_lt_of_pos k (show (0 : Int) < 3 by omega)
  have h2 : -3 < Int.tmod k 3 := by
    have := Int.neg_tmod k 3
    have h3 := Int.tmod_lt_of_pos (-k) (show (0 : Int) < 3 by omega)
    omega
  have HN : Hid (numF k = (Int.tmod k 3 + 3) % 3) := Int.tmod_eq_emod_of_nonneg (by omega)
  go_enter Try.func28, Try.ntmps28
  go_wp2_with fail
  go_ret
  exact ⟨by rw [HN.out]; rfl, rfl⟩
/-- What do ends in. -/
def RetDo (W : World) (R : List CellL) (e : Ending) (w' : World) : Prop :=
  ∃ A1 c1 A2 c2, e = .returned (.tuple #[.slice A1 R.length c1, .slice A2 R.length c2]) ∧ OwnCs w' W.heap.size (.slice A1 R.length c1) R ∧ OwnCs w' W.heap.size (.slice A2 R.length c2) R ∧ Below W.heap.size W w'
set_option maxRecDepth 100000 in
set_option maxHeartbeats 2000000 in
theorem do_any (A : Option Addr) (n c : Nat) (cs : List CellL) (o : OpM) (w : World) (B : Nat) (hR : RdC w B A n cs) (hB : B ≤ w.heap.size) (hf : Few cs) (hok : okC cs) :
    Calls Try.prog 14 #[.slice A n c, .agg (opC o).toArray] w (RetDo w (doF o cs)) := by
  obtain ⟨kd, ky, dr, da, lk, ys⟩ := o
  unfold opC doF
  dsimp only
  have NU := Lib.hid (fun w => number_any kd w)
  have HW := Lib.hid (num_ways kd)
  have hB0 : Hid (Below w.heap.size w (w.alloc (.cells #[.int .i64 kd, .string ky, .bool dr, .string da, .int .i64 lk.by_.node, .int .i64 lk.by_.life, .int .i64 lk.by_.seq, .int .i64 lk.by_.att, .int .i64 lk.home, .int .i64 lk.at_.wall, .int .i64 lk.at_.tie, .bool lk.drop, .string lk.data, .bool ys] 40))) := (Below.refl _ _).alloc (Nat.le_refl _) _
  have k0 : Blk 40 (w.alloc (.cells #[.int .i64 kd, .string ky, .bool dr, .string da, .int .i64 lk.by_.node, .int .i64 lk.by_.life, .int .i64 lk.by_.seq, .int .i64 lk.by_.att, .int .i64 lk.home, .int .i64 lk.at_.wall, .int .i64 lk.at_.tie, .bool lk.drop, .string lk.data, .bool ys] 40)) w.heap.size [.int .i64 kd, .string ky, .bool dr, .string da, .int .i64 lk.by_.node, .int .i64 lk.by_.life, .int .i64 lk.by_.seq, .int .i64 lk.by_.att, .int .i64 lk.home, .int .i64 lk.at_.wall, .int .i64 lk.at_.tie, .bool lk.drop, .string lk.data, .bool ys] := heap_alloc_new w _
  have hs1 : w.heap.size < (w.alloc (.cells #[.int .i64 kd, .string ky, .bool dr, .string da, .int .i64 lk.by_.node, .int .i64 lk.by_.life, .int .i64 lk.by_.seq, .int .i64 lk.by_.att, .int .i64 lk.home, .int .i64 lk.at_.wall, .int .i64 lk.at_.tie, .bool lk.drop, .string lk.data, .bool ys] 40)).heap.size := k0.lt
  have HS : Hid (∀ wq, Below (w.alloc (.cells #[.int .i64 kd, .string ky, .bool dr, .string da, .int .i64 lk.by_.node, .int .i64 lk.by_.life, .int .i64 lk.by_.seq, .int .i64 lk.by_.att, .int .i64 lk.home, .int .i64 lk.at_.wall, .int .i64 lk.at_.tie, .bool lk.drop, .string lk.data, .bool ys] 40)).heap.size (w.alloc (.cells #[.int .i64 kd, .string ky, .bool dr, .string da, .int .i64 lk.by_.node, .int .i64 lk.by_.life, .int .i64 lk.by_.seq, .int .i64 lk.by_.att, .int .i64 lk.home, .int .i64 lk.at_.wall, .int .i64 lk.at_.tie, .bool lk.drop, .string lk.data, .bool ys] 40)) wq → wq.cell? ⟨w.heap.size, 0, none⟩ = some (.int .i64 kd) ∧ wq.cell? ⟨w.heap.size, 1, none⟩ = some (.string ky) ∧ wq.cell? ⟨w.heap.size, 2, none⟩ = some (.bool dr) ∧ wq.cell? ⟨w.heap.size, 3, none⟩ = some (.string da) ∧ wq.cell? ⟨w.heap.size, 4, none⟩ = some (.int .i64 lk.by_.node) ∧ wq.cell? ⟨w.heap.size, 5, none⟩ = some (.int .i64 lk.by_.life) ∧ wq.cell? ⟨w.heap.size, 6, none⟩ = some (.int .i64 lk.by_.seq) ∧ wq.cell? ⟨w.heap.size, 7, none⟩ = some (.int .i64 lk.by_.att) ∧ wq.cell? ⟨w.heap.size, 8, none⟩ = some (.int .i64 lk.home) ∧ wq.cell? ⟨w.heap.size, 9, none⟩ = some (.int .i64 lk.at_.wall) ∧ wq.cell? ⟨w.heap.size, 10, none⟩ = some (.int .i64 lk.at_.tie) ∧ wq.cell? ⟨w.heap.size, 11, none⟩ = some (.bool lk.drop) ∧ wq.cell? ⟨w.heap.size, 12, none⟩ = some (.string lk.data) ∧ wq.cell? ⟨w.heap.size, 13, none⟩ = some (.bool ys)) := fun wq hq => by
    have h := k0.below hq hs1
    exact ⟨h.cell 0, h.cell 1, h.cell 2, h.cell 3, h.cell 4, h.cell 5, h.cell 6, h.cell 7, h.cell 8, h.cell 9, h.cell 10, h.cell 11, h.cell 12, h.cell 13⟩
  have HR := Lib.hid (fun (wq : World) (h : Below w.heap.size w wq) => (show RdC wq B A n cs ∧ B ≤ wq.heap.size from ⟨hR.below (h.mono hB), by have := h.size; omega⟩))
  have HL1 := Lib.hid (fun (wq : World) (h : Below w.heap.size w wq) => mvi.lock_any A n c cs ky dr da lk wq B (HR.out wq h).1 (HR.out wq h).2 hf hok)
  have HL2 := Lib.hid (fun (wq : World) (h : Below w.heap.size w wq) => ref8.lock_any A n c cs ky dr da lk wq B (HR.out wq h).1 (HR.out wq h).2 hf hok)
  have HE1 := Lib.hid (fun (wq : World) (h : Below w.heap.size w wq) => mvi.settle_any A n c cs lk.by_ ys wq B (HR.out wq h).1 (HR.out wq h).2 hf hok)
  have HE2 := Lib.hid (fun (wq : World) (h : Below w.heap.size w wq) => ref8.settle_any A n c cs lk.by_ ys wq B (HR.out wq h).1 (HR.out wq h).2 hf hok)
  have HT1 := Lib.hid (fun (wq : World) (h : Below w.heap.size w wq) => mvi.trim_any A n c cs lk.at_ wq B (HR.out wq h).1 (HR.out wq h).2 hf hok)
  have HT2 := Lib.hid (fun (wq : World) (h : Below w.heap.size w wq) => (show Calls Try.prog 31 #[.slice A n c, .agg #[.int .i64 lk.at_.wall, .int .i64 lk.at_.tie]] wq (RetCs wq (trimF lk.at_ cs)) from ref8.trim_any A n c cs lk.at_ wq B (HR.out wq h).1 (HR.out wq h).2 hf))
  clear HR hR k0
  generalize numF kd = z at *
  rcases HW.out with rfl | rfl | rfl
  · obtain ⟨R, hR⟩ : ∃ R, R = lockF ky (lockOf dr da lk) cs := ⟨_, rfl⟩
    simp only [reduceIte]
    rw [← hR] at HL1 HL2 ⊢
    clear hR
    go_enter Try.func14, Try.ntmps14
    go_upto_region 1 with (fail)
    generalize (w.alloc (.cells #[.int .i64 kd, .string ky, .bool dr, .string da, .int .i64 lk.by_.node, .int .i64 lk.by_.life, .int .i64 lk.by_.seq, .int .i64 lk.by_.att, .int .i64 lk.home, .int .i64 lk.at_.wall, .int .i64 lk.at_.tie, .bool lk.drop, .string lk.data, .bool ys] 40)) = w1 at *
    have kk0 := (HS.out _ (Below.refl _ _)).1
    have q0 : Below w1.heap.size w1 w1.drew := (Below.refl _ _).drew
    go_wp2_with fail
    refine (NU.out _).mono ?_
    rintro e w2 ⟨rfl, rfl⟩
    clear NU
    go_upto_region 3 with (fail)
    refine wp_region_held_drew (S := fun wq => wq.cell? ⟨w.heap.size, 0, none⟩ = some (.int .i64 kd) ∧ wq.cell? ⟨w.heap.size, 1, none⟩ = some (.string ky) ∧ wq.cell? ⟨w.heap.size, 2, none⟩ = some (.bool dr) ∧ wq.cell? ⟨w.heap.size, 3, none⟩ = some (.string da) ∧ wq.cell? ⟨w.heap.size, 4, none⟩ = some (.int .i64 lk.by_.node) ∧ wq.cell? ⟨w.heap.size, 5, none⟩ = some (.int .i64 lk.by_.life) ∧ wq.cell? ⟨w.heap.size, 6, none⟩ = some (.int .i64 lk.by_.seq) ∧ wq.cell? ⟨w.heap.size, 7, none⟩ = some (.int .i64 lk.by_.att) ∧ wq.cell? ⟨w.heap.size, 8, none⟩ = some (.int .i64 lk.home) ∧ wq.cell? ⟨w.heap.size, 9, none⟩ = some (.int .i64 lk.at_.wall) ∧ wq.cell? ⟨w.heap.size, 10, none⟩ = some (.int .i64 lk.at_.tie) ∧ wq.cell? ⟨w.heap.size, 11, none⟩ = some (.bool lk.drop) ∧ wq.cell? ⟨w.heap.size, 12, none⟩ = some (.string lk.data) ∧ wq.cell? ⟨w.heap.size, 13, none⟩ = some (.bool ys)) (by kernel_rfl) ?s_3 (fun hHeld => ?_)
    case s_3 => exact HS.out _ q0
    refine tk 0 { dst := some 11, op := .move (.tmp 0), type := 31, pos := "law.go:66", after := #[], guard := none } _ ?_
    try simp only [Act.put, List.setIfInBounds_toArray, List.set_cons_zero, List.set_cons_succ]
    refine tk 1 { dst := some 12, op := .fieldAddr 40 (.tmp 3) 1, type := 0, pos := "law.go:66", after := #[], guard := none } _ ?_
    try simp only [Act.put, List.setIfInBounds_toArray, List.set_cons_zero, List.set_cons_succ]
    refine tk 2 { dst := some 13, op := .load 36 (.tmp 12), type := 36, pos := "law.go:66", after := #[{ on := 1, ground := .data }], guard := none } _ ?_
    try simp only [Act.put, List.setIfInBounds_toArray, List.set_cons_zero, List.set_cons_succ]
    refine tk 3 { dst := some 14, op := .fieldAddr 40 (.tmp 3) 2, type := 0, pos := "law.go:66", after := #[], guard := none } _ ?_
    try simp only [Act.put, List.setIfInBounds_toArray, List.set_cons_zero, List.set_cons_succ]
    refine tk 4 { dst := some 15, op := .load 38 (.tmp 14), type := 38, pos := "law.go:66", after := #[{ on := 3, ground := .data }], guard := none } _ ?_
    try simp only [Act.put, List.setIfInBounds_toArray, List.set_cons_zero, List.set_cons_succ]
    refine tk 6 { dst := some 17, op := .move (.tmp 0), type := 31, pos := "law.go:66", after := #[], guard := none } _ ?_
    try simp only [Act.put, List.setIfInBounds_toArray, List.set_cons_zero, List.set_cons_succ]
    refine tk 7 { dst := some 18, op := .fieldAddr 40 (.tmp 3) 1, type := 0, pos := "law.go:66", after := #[], guard := none } _ ?_
    try simp only [Act.put, List.setIfInBounds_toArray, List.set_cons_zero, List.set_cons_succ]
    refine tk 8 { dst := some 19, op := .load 36 (.tmp 18), type := 36, pos := "law.go:66", after := #[{ on := 7, ground := .data }], guard := none } _ ?_
    try simp only [Act.put, List.setIfInBounds_toArray, List.set_cons_zero, List.set_cons_succ]
    refine tk 9 { dst := some 20, op := .fieldAddr 40 (.tmp 3) 2, type := 0, pos := "law.go:66", after := #[], guard := none } _ ?_
    try simp only [Act.put, List.setIfInBounds_toArray, List.set_cons_zero, List.set_cons_succ]
    refine tk 10 { dst := some 21, op := .load 38 (.tmp 20), type := 38, pos := "law.go:66", after := #[{ on := 9, ground := .data }], guard := none } _ ?_
    try simp only [Act.put, List.setIfInBounds_toArray, List.set_cons_zero, List.set_cons_succ]
    refine wpAnyH_ready (rs := [5]) (by kernel_rfl) (by simp) ?_
    refine AllReadyH.cons (o := { dst := some 16, op := .call { callee := .value (.func 25), args := #[.tmp 11, .tmp 13, .tmp 15], argTypes := #[31, 36, 38] }, type := 31, pos := "law.go:66", after := #[{ on := 0, ground := .data }, { on := 2, ground := .data }, { on := 4, ground := .data }], guard := none }) rfl (fun KQ hKQ => ?_) AllReadyH.nil
    go_simp
    refine (HL1.out _ (hB0.out.trans (q0.mono hB0.out.size))).mono ?_
    rintro e y1 ⟨A1, c1, rfl, hO1, hY1⟩
    have q1 := q0.trans (hY1.mono q0.size)
    have r1 := HS.out _ q1
    go_wp2_with fail
    refine hKQ.out _ _ ?s_5 (fun hHeld5 => ?_)
    case s_5 => exact r1
    clear hKQ KQ
    try simp only [Act.put, List.setIfInBounds_toArray, List.set_cons_zero, List.set_cons_succ]
    refine wpAnyH_ready (rs := [11]) (by kernel_rfl) (by simp) ?_
    refine AllReadyH.cons (o := { dst := some 22, op := .call { callee := .value (.func 29), args := #[.tmp 17, .tmp 19, .tmp 21], argTypes := #[31, 36, 38] }, type := 31, pos := "law.go:66", after := #[{ on := 6, ground := .data }, { on := 8, ground := .data }, { on := 10, ground := .data }, { on := 5, ground := .chain }], guard := none }) rfl (fun KQ hKQ => ?_) AllReadyH.nil
    go_simp
    refine (HL2.out _ (hB0.out.trans (q1.mono hB0.out.size))).mono ?_
    rintro e y2 ⟨A2, c2, rfl, hO2, hY2⟩
    have q2 := q1.trans (hY2.mono q1.size)
    have r2 := HS.out _ q2
    go_wp2_with fail
    refine hKQ.out _ _ ?s_11 (fun hHeld11 => ?_)
    case s_11 => exact r2
    clear hKQ KQ
    try simp only [Act.put, List.setIfInBounds_toArray, List.set_cons_zero, List.set_cons_succ]
    refine tk 12 { dst := some 4, op := .assign (.tmp 16), type := 31, pos := "law.go:66", after := #[{ on := 5, ground := .data }, { on := 11, ground := .chain }, { on := 0, ground := .phase }, { on := 1, ground := .phase }, { on := 2, ground := .phase }, { on := 3, ground := .phase }, { on := 4, ground := .phase }, { on := 5, ground := .phase }, { on := 6, ground := .textOnly Go.Departure.lateStores }, { on := 7, ground := .textOnly Go.Departure.lateStores }, { on := 8, ground := .textOnly Go.Departure.lateStores }, { on := 9, ground := .textOnly Go.Departure.lateStores }, { on := 10, ground := .textOnly Go.Departure.lateStores }, { on := 11, ground := .textOnly Go.Departure.lateStoresUnsure }], guard := none } _ ?_
    try simp only [Act.put, List.setIfInBounds_toArray, List.set_cons_zero, List.set_cons_succ]
    refine tk 13 { dst := some 5, op := .assign (.tmp 22), type := 31, pos := "law.go:66", after := #[{ on := 11, ground := .data }, { on := 12, ground := .chain }, { on := 0, ground := .phase }, { on := 1, ground := .phase }, { on := 2, ground := .phase }, { on := 3, ground := .phase }, { on := 4, ground := .phase }, { on := 5, ground := .phase }, { on := 6, ground := .phase }, { on := 7, ground := .phase }, { on := 8, ground := .phase }, { on := 9, ground := .phase }, { on := 10, ground := .phase }, { on := 11, ground := .phase }, { on := 12, ground := .phase }], guard := none } _ ?_
    try simp only [Act.put, List.setIfInBounds_toArray, List.set_cons_zero, List.set_cons_succ]
    refine wpAnyH_done (by kernel_rfl) ?_ _
    have hO1' := hO1.below hY2
    go_wp2_with fail
    go_ret2
    unfold RetDo
    exact ⟨A1, c1, A2, c2, rfl, hO1'.more (Nat.le_trans hB0.out.size q0.size), hO2.more (Nat.le_trans hB0.out.size q1.size), hB0.out.trans (q2.mono hB0.out.size)⟩
  · obtain ⟨R, hR⟩ : ∃ R, R = settleF lk.by_ ys cs := ⟨_, rfl⟩
    simp only [reduceIte, show ¬ (1 : Int) = 0 by decide]
    rw [← hR] at HE1 HE2 ⊢
    clear hR
    go_enter Try.func14, Try.ntmps14
    go_upto_region 1 with (fail)
    generalize (w.alloc (.cells #[.int .i64 kd, .string ky, .bool dr, .string da, .int .i64 lk.by_.node, .int .i64 lk.by_.life, .int .i64 lk.by_.seq, .int .i64 lk.by_.att, .int .i64 lk.home, .int .i64 lk.at_.wall, .int .i64 lk.at_.tie, .bool lk.drop, .string lk.data, .bool ys] 40)) = w1 at *
    have kk0 := (HS.out _ (Below.refl _ _)).1
    have q0 : Below w1.heap.size w1 w1.drew := (Below.refl _ _).drew
    go_wp2_with fail
    refine (NU.out _).mono ?_
    rintro e w2 ⟨rfl, rfl⟩
    clear NU
    go_upto_region 5 with (fail)
    refine wp_region_held_drew (S := fun wq => wq.cell? ⟨w.heap.size, 0, none⟩ = some (.int .i64 kd) ∧ wq.cell? ⟨w.heap.size, 1, none⟩ = some (.string ky) ∧ wq.cell? ⟨w.heap.size, 2, none⟩ = some (.bool dr) ∧ wq.cell? ⟨w.heap.size, 3, none⟩ = some (.string da) ∧ wq.cell? ⟨w.heap.size, 4, none⟩ = some (.int .i64 lk.by_.node) ∧ wq.cell? ⟨w.heap.size, 5, none⟩ = some (.int .i64 lk.by_.life) ∧ wq.cell? ⟨w.heap.size, 6, none⟩ = some (.int .i64 lk.by_.seq) ∧ wq.cell? ⟨w.heap.size, 7, none⟩ = some (.int .i64 lk.by_.att) ∧ wq.cell? ⟨w.heap.size, 8, none⟩ = some (.int .i64 lk.home) ∧ wq.cell? ⟨w.heap.size, 9, none⟩ = some (.int .i64 lk.at_.wall) ∧ wq.cell? ⟨w.heap.size, 10, none⟩ = some (.int .i64 lk.at_.tie) ∧ wq.cell? ⟨w.heap.size, 11, none⟩ = some (.bool lk.drop) ∧ wq.cell? ⟨w.heap.size, 12, none⟩ = some (.string lk.data) ∧ wq.cell? ⟨w.heap.size, 13, none⟩ = some (.bool ys)) (by kernel_rfl) ?s_5 (fun hHeld => ?_)
    case s_5 => exact HS.out _ q0
    refine tk 0 { dst := some 25, op := .move (.tmp 0), type := 31, pos := "law.go:68", after := #[], guard := none } _ ?_
    try simp only [Act.put, List.setIfInBounds_toArray, List.set_cons_zero, List.set_cons_succ]
    refine tk 1 { dst := some 26, op := .fieldAddr 40 (.tmp 3) 2, type := 0, pos := "law.go:68", after := #[], guard := none } _ ?_
    try simp only [Act.put, List.setIfInBounds_toArray, List.set_cons_zero, List.set_cons_succ]
    refine tk 2 { dst := some 27, op := .fieldAddr 38 (.tmp 26) 0, type := 0, pos := "law.go:68", after := #[{ on := 1, ground := .data }], guard := none } _ ?_
    try simp only [Act.put, List.setIfInBounds_toArray, List.set_cons_zero, List.set_cons_succ]
    refine tk 3 { dst := some 28, op := .load 28 (.tmp 27), type := 28, pos := "law.go:68", after := #[{ on := 2, ground := .data }], guard := none } _ ?_
    try simp only [Act.put, List.setIfInBounds_toArray, List.set_cons_zero, List.set_cons_succ]
    refine tk 4 { dst := some 29, op := .fieldAddr 40 (.tmp 3) 3, type := 0, pos := "law.go:68", after := #[], guard := none } _ ?_
    try simp only [Act.put, List.setIfInBounds_toArray, List.set_cons_zero, List.set_cons_succ]
    refine tk 5 { dst := some 30, op := .load 4 (.tmp 29), type := 4, pos := "law.go:68", after := #[{ on := 4, ground := .data }], guard := none } _ ?_
    try simp only [Act.put, List.setIfInBounds_toArray, List.set_cons_zero, List.set_cons_succ]
    refine tk 7 { dst := some 32, op := .move (.tmp 0), type := 31, pos := "law.go:68", after := #[], guard := none } _ ?_
    try simp only [Act.put, List.setIfInBounds_toArray, List.set_cons_zero, List.set_cons_succ]
    refine tk 8 { dst := some 33, op := .fieldAddr 40 (.tmp 3) 2, type := 0, pos := "law.go:68", after := #[], guard := none } _ ?_
    try simp only [Act.put, List.setIfInBounds_toArray, List.set_cons_zero, List.set_cons_succ]
    refine tk 9 { dst := some 34, op := .fieldAddr 38 (.tmp 33) 0, type := 0, pos := "law.go:68", after := #[{ on := 8, ground := .data }], guard := none } _ ?_
    try simp only [Act.put, List.setIfInBounds_toArray, List.set_cons_zero, List.set_cons_succ]
    refine tk 10 { dst := some 35, op := .load 28 (.tmp 34), type := 28, pos := "law.go:68", after := #[{ on := 9, ground := .data }], guard := none } _ ?_
    try simp only [Act.put, List.setIfInBounds_toArray, List.set_cons_zero, List.set_cons_succ]
    refine tk 11 { dst := some 36, op := .fieldAddr 40 (.tmp 3) 3, type := 0, pos := "law.go:68", after := #[], guard := none } _ ?_
    try simp only [Act.put, List.setIfInBounds_toArray, List.set_cons_zero, List.set_cons_succ]
    refine tk 12 { dst := some 37, op := .load 4 (.tmp 36), type := 4, pos := "law.go:68", after := #[{ on := 11, ground := .data }], guard := none } _ ?_
    try simp only [Act.put, List.setIfInBounds_toArray, List.set_cons_zero, List.set_cons_succ]
    refine wpAnyH_ready (rs := [6]) (by kernel_rfl) (by simp) ?_
    refine AllReadyH.cons (o := { dst := some 31, op := .call { callee := .value (.func 24), args := #[.tmp 25, .tmp 28, .tmp 30], argTypes := #[31, 28, 4] }, type := 31, pos := "law.go:68", after := #[{ on := 0, ground := .data }, { on := 3, ground := .data }, { on := 5, ground := .data }], guard := none }) rfl (fun KQ hKQ => ?_) AllReadyH.nil
    go_simp
    refine (HE1.out _ (hB0.out.trans (q0.mono hB0.out.size))).mono ?_
    rintro e y1 ⟨A1, c1, rfl, hO1, hY1⟩
    have q1 := q0.trans (hY1.mono q0.size)
    have r1 := HS.out _ q1
    go_wp2_with fail
    refine hKQ.out _ _ ?s_6 (fun hHeld6 => ?_)
    case s_6 => exact r1
    clear hKQ KQ
    try simp only [Act.put, List.setIfInBounds_toArray, List.set_cons_zero, List.set_cons_succ]
    refine wpAnyH_ready (rs := [13]) (by kernel_rfl) (by simp) ?_
    refine AllReadyH.cons (o := { dst := some 38, op := .call { callee := .value (.func 30), args := #[.tmp 32, .tmp 35, .tmp 37], argTypes := #[31, 28, 4] }, type := 31, pos := "law.go:68", after := #[{ on := 7, ground := .data }, { on := 10, ground := .data }, { on := 12, ground := .data }, { on := 6, ground := .chain }], guard := none }) rfl (fun KQ hKQ => ?_) AllReadyH.nil
    go_simp
    refine (HE2.out _ (hB0.out.trans (q1.mono hB0.out.size))).mono ?_
    rintro e y2 ⟨A2, c2, rfl, hO2, hY2⟩
    have q2 := q1.trans (hY2.mono q1.size)
    have r2 := HS.out _ q2
    go_wp2_with fail
    refine hKQ.out _ _ ?s_13 (fun hHeld13 => ?_)
    case s_13 => exact r2
    clear hKQ KQ
    try simp only [Act.put, List.setIfInBounds_toArray, List.set_cons_zero, List.set_cons_succ]
    refine tk 14 { dst := some 4, op := .assign (.tmp 31), type := 31, pos := "law.go:68", after := #[{ on := 6, ground := .data }, { on := 13, ground := .chain }, { on := 0, ground := .phase }, { on := 1, ground := .phase }, { on := 2, ground := .phase }, { on := 3, ground := .phase }, { on := 4, ground := .phase }, { on := 5, ground := .phase }, { on := 6, ground := .phase }, { on := 7, ground := .textOnly Go.Departure.lateStores }, { on := 8, ground := .textOnly Go.Departure.lateStores }, { on := 9, ground := .textOnly Go.Departure.lateStores }, { on := 10, ground := .textOnly Go.Departure.lateStores }, { on := 11, ground := .textOnly Go.Departure.lateStores }, { on := 12, ground := .textOnly Go.Departure.lateStores }, { on := 13, ground := .textOnly Go.Departure.lateStoresUnsure }], guard := none } _ ?_
    try simp only [Act.put, List.setIfInBounds_toArray, List.set_cons_zero, List.set_cons_succ]
    refine tk 15 { dst := some 5, op := .assign (.tmp 38), type := 31, pos := "law.go:68", after := #[{ on := 13, ground := .data }, { on := 14, ground := .chain }, { on := 0, ground := .phase }, { on := 1, ground := .phase }, { on := 2, ground := .phase }, { on := 3, ground := .phase }, { on := 4, ground := .phase }, { on := 5, ground := .phase }, { on := 6, ground := .phase }, { on := 7, ground := .phase }, { on := 8, ground := .phase }, { on := 9, ground := .phase }, { on := 10, ground := .phase }, { on := 11, ground := .phase }, { on := 12, ground := .phase }, { on := 13, ground := .phase }, { on := 14, ground := .phase }], guard := none } _ ?_
    try simp only [Act.put, List.setIfInBounds_toArray, List.set_cons_zero, List.set_cons_succ]
    refine wpAnyH_done (by kernel_rfl) ?_ _
    have hO1' := hO1.below hY2
    go_wp2_with fail
    go_ret2
    unfold RetDo
    exact ⟨A1, c1, A2, c2, rfl, hO1'.more (Nat.le_trans hB0.out.size q0.size), hO2.more (Nat.le_trans hB0.out.size q1.size), hB0.out.trans (q2.mono hB0.out.size)⟩
  · obtain ⟨R, hR⟩ : ∃ R, R = trimF lk.at_ cs := ⟨_, rfl⟩
    simp only [reduceIte, show ¬ (2 : Int) = 0 by decide, show ¬ (2 : Int) = 1 by decide]
    rw [← hR] at HT1 HT2 ⊢
    clear hR
    go_enter Try.func14, Try.ntmps14
    go_upto_region 1 with (fail)
    generalize (w.alloc (.cells #[.int .i64 kd, .string ky, .bool dr, .string da, .int .i64 lk.by_.node, .int .i64 lk.by_.life, .int .i64 lk.by_.seq, .int .i64 lk.by_.att, .int .i64 lk.home, .int .i64 lk.at_.wall, .int .i64 lk.at_.tie, .bool lk.drop, .string lk.data, .bool ys] 40)) = w1 at *
    have kk0 := (HS.out _ (Below.refl _ _)).1
    have q0 : Below w1.heap.size w1 w1.drew := (Below.refl _ _).drew
    go_wp2_with fail
    refine (NU.out _).mono ?_
    rintro e w2 ⟨rfl, rfl⟩
    clear NU
    go_upto_region 6 with (fail)
    refine wp_region_held_drew (S := fun wq => wq.cell? ⟨w.heap.size, 0, none⟩ = some (.int .i64 kd) ∧ wq.cell? ⟨w.heap.size, 1, none⟩ = some (.string ky) ∧ wq.cell? ⟨w.heap.size, 2, none⟩ = some (.bool dr) ∧ wq.cell? ⟨w.heap.size, 3, none⟩ = some (.string da) ∧ wq.cell? ⟨w.heap.size, 4, none⟩ = some (.int .i64 lk.by_.node) ∧ wq.cell? ⟨w.heap.size, 5, none⟩ = some (.int .i64 lk.by_.life) ∧ wq.cell? ⟨w.heap.size, 6, none⟩ = some (.int .i64 lk.by_.seq) ∧ wq.cell? ⟨w.heap.size, 7, none⟩ = some (.int .i64 lk.by_.att) ∧ wq.cell? ⟨w.heap.size, 8, none⟩ = some (.int .i64 lk.home) ∧ wq.cell? ⟨w.heap.size, 9, none⟩ = some (.int .i64 lk.at_.wall) ∧ wq.cell? ⟨w.heap.size, 10, none⟩ = some (.int .i64 lk.at_.tie) ∧ wq.cell? ⟨w.heap.size, 11, none⟩ = some (.bool lk.drop) ∧ wq.cell? ⟨w.heap.size, 12, none⟩ = some (.string lk.data) ∧ wq.cell? ⟨w.heap.size, 13, none⟩ = some (.bool ys)) (by kernel_rfl) ?s_6 (fun hHeld => ?_)
    case s_6 => exact HS.out _ q0
    refine tk 0 { dst := some 39, op := .move (.tmp 0), type := 31, pos := "law.go:70", after := #[], guard := none } _ ?_
    try simp only [Act.put, List.setIfInBounds_toArray, List.set_cons_zero, List.set_cons_succ]
    refine tk 1 { dst := some 40, op := .fieldAddr 40 (.tmp 3) 2, type := 0, pos := "law.go:70", after := #[], guard := none } _ ?_
    try simp only [Act.put, List.setIfInBounds_toArray, List.set_cons_zero, List.set_cons_succ]
    refine tk 2 { dst := some 41, op := .fieldAddr 38 (.tmp 40) 2, type := 0, pos := "law.go:70", after := #[{ on := 1, ground := .data }], guard := none } _ ?_
    try simp only [Act.put, List.setIfInBounds_toArray, List.set_cons_zero, List.set_cons_succ]
    refine tk 3 { dst := some 42, op := .load 24 (.tmp 41), type := 24, pos := "law.go:70", after := #[{ on := 2, ground := .data }], guard := none } _ ?_
    try simp only [Act.put, List.setIfInBounds_toArray, List.set_cons_zero, List.set_cons_succ]
    refine tk 5 { dst := some 44, op := .move (.tmp 0), type := 31, pos := "law.go:70", after := #[], guard := none } _ ?_
    try simp only [Act.put, List.setIfInBounds_toArray, List.set_cons_zero, List.set_cons_succ]
    refine tk 6 { dst := some 45, op := .fieldAddr 40 (.tmp 3) 2, type := 0, pos := "law.go:70", after := #[], guard := none } _ ?_
    try simp only [Act.put, List.setIfInBounds_toArray, List.set_cons_zero, List.set_cons_succ]
    refine tk 7 { dst := some 46, op := .fieldAddr 38 (.tmp 45) 2, type := 0, pos := "law.go:70", after := #[{ on := 6, ground := .data }], guard := none } _ ?_
    try simp only [Act.put, List.setIfInBounds_toArray, List.set_cons_zero, List.set_cons_succ]
    refine tk 8 { dst := some 47, op := .load 24 (.tmp 46), type := 24, pos := "law.go:70", after := #[{ on := 7, ground := .data }], guard := none } _ ?_
    try simp only [Act.put, List.setIfInBounds_toArray, List.set_cons_zero, List.set_cons_succ]
    refine wpAnyH_ready (rs := [4]) (by kernel_rfl) (by simp) ?_
    refine AllReadyH.cons (o := { dst := some 43, op := .call { callee := .value (.func 20), args := #[.tmp 39, .tmp 42], argTypes := #[31, 24] }, type := 31, pos := "law.go:70", after := #[{ on := 0, ground := .data }, { on := 3, ground := .data }], guard := none }) rfl (fun KQ hKQ => ?_) AllReadyH.nil
    go_simp
    refine (HT1.out _ (hB0.out.trans (q0.mono hB0.out.size))).mono ?_
    rintro e y1 ⟨A1, c1, rfl, hO1, hY1⟩
    have q1 := q0.trans (hY1.mono q0.size)
    have r1 := HS.out _ q1
    go_wp2_with fail
    refine hKQ.out _ _ ?s_4 (fun hHeld4 => ?_)
    case s_4 => exact r1
    clear hKQ KQ
    try simp only [Act.put, List.setIfInBounds_toArray, List.set_cons_zero, List.set_cons_succ]
    refine wpAnyH_ready (rs := [9]) (by kernel_rfl) (by simp) ?_
    refine AllReadyH.cons (o := { dst := some 48, op := .call { callee := .value (.func 31), args := #[.tmp 44, .tmp 47], argTypes := #[31, 24] }, type := 31, pos := "law.go:70", after := #[{ on := 5, ground := .data }, { on := 8, ground := .data }, { on := 4, ground := .chain }], guard := none }) rfl (fun KQ hKQ => ?_) AllReadyH.nil
    go_simp
    refine (HT2.out _ (hB0.out.trans (q1.mono hB0.out.size))).mono ?_
    rintro e y2 ⟨A2, c2, rfl, hO2, hY2⟩
    have q2 := q1.trans (hY2.mono q1.size)
    have r2 := HS.out _ q2
    go_wp2_with fail
    refine hKQ.out _ _ ?s_9 (fun hHeld9 => ?_)
    case s_9 => exact r2
    clear hKQ KQ
    try simp only [Act.put, List.setIfInBounds_toArray, List.set_cons_zero, List.set_cons_succ]
    refine tk 10 { dst := some 4, op := .assign (.tmp 43), type := 31, pos := "law.go:70", after := #[{ on := 4, ground := .data }, { on := 9, ground := .chain }, { on := 0, ground := .phase }, { on := 1, ground := .phase }, { on := 2, ground := .phase }, { on := 3, ground := .phase }, { on := 4, ground := .phase }, { on := 5, ground := .textOnly Go.Departure.lateStores }, { on := 6, ground := .textOnly Go.Departure.lateStores }, { on := 7, ground := .textOnly Go.Departure.lateStores }, { on := 8, ground := .textOnly Go.Departure.lateStores }, { on := 9, ground := .textOnly Go.Departure.lateStoresUnsure }], guard := none } _ ?_
    try simp only [Act.put, List.setIfInBounds_toArray, List.set_cons_zero, List.set_cons_succ]
    refine tk 11 { dst := some 5, op := .assign (.tmp 48), type := 31, pos := "law.go:70", after := #[{ on := 9, ground := .data }, { on := 10, ground := .chain }, { on := 0, ground := .phase }, { on := 1, ground := .phase }, { on := 2, ground := .phase }, { on := 3, ground := .phase }, { on := 4, ground := .phase }, { on := 5, ground := .phase }, { on := 6, ground := .phase }, { on := 7, ground := .phase }, { on := 8, ground := .phase }, { on := 9, ground := .phase }, { on := 10, ground := .phase }], guard := none } _ ?_
    try simp only [Act.put, List.setIfInBounds_toArray, List.set_cons_zero, List.set_cons_succ]
    refine wpAnyH_done (by kernel_rfl) ?_ _
    have hO1' := hO1.below hY2
    go_wp2_with fail
    go_ret2
    unfold RetDo
    exact ⟨A1, c1, A2, c2, rfl, hO1'.more (Nat.le_trans hB0.out.size q0.size), hO2.more (Nat.le_trans hB0.out.size q1.size), hB0.out.trans (q2.mono hB0.out.size)⟩
end Go.Proofs.Ytlkhmpfdajefiaa.law8
