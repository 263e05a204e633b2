/- The statements' own begun (stage 8). Conditions: none. -/
import Derived.Test.YtlkhmpfdajefiaaJoin1
import Derived.Test.YtlkhmpfdajefiaaMvcL
import Derived.Test.YtlkhmpfdajefiaaMvcD
import Derived.Test.YtlkhmpfdajefiaaMvcN
import Derived.Test.YtlkhmpfdajefiaaMvcT
namespace Go.Proofs.Ytlkhmpfdajefiaa.law8
open Go Go.RowKit Go.Proofs.Ytlkhmpfdajefiaa.kit Go.Proofs.Ytlkhmpfdajefiaa.nums Go.Proofs.Ytlkhmpfdajefiaa.st Go.Proofs.Ytlkhmpfdajefiaa.mv Go.Proofs.Ytlkhmpfdajefiaa.ref8
set_option linter.unusedVariables false

def begL : LockL := ⟨⟨1, 0, 0, 0⟩, 0, ⟨5, 0⟩, false, noText⟩
def begC : List CellL := lockF (⟨#[107]⟩ : ByteArray) (lockOf false (⟨#[120]⟩ : ByteArray) begL) []
def begD : List CellL := settleF ⟨1, 0, 0, 0⟩ true begC
theorem beg_ok : okC begC := ok_lock _ _ (lockOf_text _ _ _) _ ⟨List.Pairwise.nil, fun x hx => by cases hx⟩
theorem begD_ok : okC begD := ok_settle beg_ok _ _
theorem begC_is : begC = [⟨⟨#[107]⟩, [], true, ⟨⟨1, 0, 0, 0⟩, 0, ⟨5, 0⟩, false, ⟨#[120]⟩⟩⟩] := rfl
theorem begD_is : begD = [⟨⟨#[107]⟩, [⟨⟨5, 0⟩, false, ⟨#[120]⟩⟩], false, zeroL⟩] := by unfold begD; rw [begC_is]; rfl
theorem beg_few : Few begC := by rw [begC_is]; exact ⟨by decide, fun x hx => by obtain rfl := List.mem_singleton.1 hx; decide⟩
theorem begD_few : Few begD := by rw [begD_is]; exact ⟨by decide, fun x hx => by obtain rfl := List.mem_singleton.1 hx; decide⟩
theorem beg_get : getF begC (⟨#[107]⟩ : ByteArray) ⟨9, 0⟩ = none := by rw [begC_is]; decide
theorem begD_get : getF begD (⟨#[107]⟩ : ByteArray) ⟨5, 0⟩ = some (⟨#[120]⟩ : ByteArray) := by rw [begD_is]; decide
theorem beg_mine : mineF begC ⟨1, 0, 0, 0⟩ = true := by rw [begC_is]; decide
theorem begD_mine : mineF begD ⟨1, 0, 0, 0⟩ = false := by rw [begD_is]; decide
set_option maxRecDepth 10000 in
set_option maxHeartbeats 1000000 in
theorem begun_any (w : World) : Calls Try.prog 11 #[] w fun e w' => e = .returned (.bool true) ∧ Below w.heap.size w w' := by
  have LK := Lib.hid (fun (wq : World) => (show Calls Try.prog 25 #[.slice none 0 0, .agg #[.string { data := #[107] }, .bool false, .string { data := #[120] }], .agg #[.int .i64 1, .int .i64 0, .int .i64 0, .int .i64 0, .int .i64 0, .int .i64 5, .int .i64 0, .bool false, .string { data := #[] }]] wq (RetCs wq begC) from mvi.lock_any none 0 0 [] (⟨#[107]⟩ : ByteArray) false (⟨#[120]⟩ : ByteArray) begL wq 0 ⟨rfl, fun h => absurd h (by omega)⟩ (Nat.zero_le _) ⟨Nat.zero_le _, fun x hx => by cases hx⟩ ⟨List.Pairwise.nil, fun x hx => by cases hx⟩))
  have hBk := Lib.hid ((Below.refl w.heap.size w).alloc (Nat.le_refl _) (.cells #[.int .i64 1, .int .i64 0, .int .i64 0, .int .i64 0, .int .i64 0, .int .i64 5, .int .i64 0, .bool false, .string { data := #[] }] 38))
  have k1 : Blk 38 (w.alloc (.cells #[.int .i64 1, .int .i64 0, .int .i64 0, .int .i64 0, .int .i64 0, .int .i64 5, .int .i64 0, .bool false, .string { data := #[] }] 38)) w.heap.size [.int .i64 1, .int .i64 0, .int .i64 0, .int .i64 0, .int .i64 0, .int .i64 5, .int .i64 0, .bool false, .string { data := #[] }] := heap_alloc_new w _
  have hs1 : w.heap.size < (w.alloc (.cells #[.int .i64 1, .int .i64 0, .int .i64 0, .int .i64 0, .int .i64 0, .int .i64 5, .int .i64 0, .bool false, .string { data := #[] }] 38)).heap.size := k1.lt
  have HS : Hid (∀ wq, Below (w.alloc (.cells #[.int .i64 1, .int .i64 0, .int .i64 0, .int .i64 0, .int .i64 0, .int .i64 5, .int .i64 0, .bool false, .string { data := #[] }] 38)).heap.size (w.alloc (.cells #[.int .i64 1, .int .i64 0, .int .i64 0, .int .i64 0, .int .i64 0, .int .i64 5, .int .i64 0, .bool false, .string { data := #[] }] 38)) wq → wq.cell? ⟨w.heap.size, 0, none⟩ = some (.int .i64 1) ∧ wq.cell? ⟨w.heap.size, 1, none⟩ = some (.int .i64 0) ∧ wq.cell? ⟨w.heap.size, 2, none⟩ = some (.int .i64 0) ∧ wq.cell? ⟨w.heap.size, 3, none⟩ = some (.int .i64 0)) := fun wq hq => by
    have h := k1.below hq hs1
    exact ⟨h.cell 0, h.cell 1, h.cell 2, h.cell 3⟩
  obtain ⟨d0, d1, d2, d3, d4, d5, d6, d7, d8⟩ := blk9 k1
  clear k1
  go_enter Try.func11, Try.ntmps11
  go_upto_region 2 with (fail)
  generalize (w.alloc (.cells #[.int .i64 1, .int .i64 0, .int .i64 0, .int .i64 0, .int .i64 0, .int .i64 5, .int .i64 0, .bool false, .string { data := #[] }] 38)) = w1 at *
  go_wp2_with fail
  refine (LK.out _).mono ?_
  rintro e w2 ⟨A1, c1, rfl, hO1, hB2⟩
  clear d0 d1 d2 d3 d4 d5 d6 d7 d8
  obtain ⟨A1', c1', e1, _, _, hR1⟩ := hO1.rd
  simp only [Value.slice.injEq] at e1
  obtain ⟨rfl, _, rfl⟩ := e1
  have G1 := mvi.get_any A1 begC.length c1 begC (⟨#[107]⟩ : ByteArray) ⟨9, 0⟩ w2 w2.heap.size hR1 (Nat.le_refl _) beg_few beg_ok
  rw [beg_get] at G1
  unfold ofV stC at G1
  dsimp only at G1
  have M1 := Lib.hid (fun wq (h : Below w2.heap.size w2 wq) => mvi.mine_any A1 begC.length c1 begC ⟨1, 0, 0, 0⟩ wq w2.heap.size (hR1.below h) h.size beg_few beg_ok)
  have S1 := Lib.hid (fun wq (h : Below w2.heap.size w2 wq) => (show Calls Try.prog 24 _ wq (RetCs wq begD) from mvi.settle_any A1 begC.length c1 begC ⟨1, 0, 0, 0⟩ true wq w2.heap.size (hR1.below h) h.size beg_few beg_ok))
  rw [beg_mine] at M1
  unfold trC at M1
  dsimp only at M1 S1
  have HG := Lib.hid G1
  clear G1 hR1
  generalize begC.length = n1 at *
  go_wp2_with fail
  refine HG.out.mono ?_
  rintro e w3 ⟨rfl, hB3⟩
  have q3 := hB2.trans (hB3.mono hB2.size)
  obtain ⟨t0, t1, t2, t3⟩ := HS.out _ q3
  go_wp2_with fail
  refine (S1.out _ hB3).mono ?_
  rintro e w4 ⟨A4, c4, rfl, hO4, hB4⟩
  have q34 := hB3.trans (hB4.mono hB3.size)
  have q4 := q3.trans (hB4.mono q3.size)
  obtain ⟨A4', c4', e1, _, _, hR4⟩ := hO4.rd
  simp only [Value.slice.injEq] at e1
  obtain ⟨rfl, _, rfl⟩ := e1
  have G4 := mvi.get_any A4 begD.length c4 begD (⟨#[107]⟩ : ByteArray) ⟨5, 0⟩ w4 w4.heap.size hR4 (Nat.le_refl _) begD_few begD_ok
  rw [begD_get] at G4
  unfold ofV stC at G4
  dsimp only at G4
  have M4 := Lib.hid (fun wq (h : Below w4.heap.size w4 wq) => mvi.mine_any A4 begD.length c4 begD ⟨1, 0, 0, 0⟩ wq w4.heap.size (hR4.below h) h.size begD_few begD_ok)
  rw [begD_mine] at M4
  unfold trC at M4
  dsimp only at M4
  have Y4 := Lib.hid (fun wq (h : Below w4.heap.size w4 wq) => mvi.may_any A4 begD.length c4 begD wq w4.heap.size (hR4.below h) h.size begD_few)
  have HG4 := Lib.hid G4
  clear G4 hR4 t0 t1 t2 t3
  generalize begD.length = n4 at *
  go_wp2_with fail
  refine HG4.out.mono ?_
  rintro e w5 ⟨rfl, hB5⟩
  have q5 := q4.trans (hB5.mono q4.size)
  obtain ⟨t0, t1, t2, t3⟩ := HS.out _ q5
  go_wp2_with fail
  refine (M1.out _ (q34.trans (hB5.mono q34.size))).mono ?_
  rintro e w6 ⟨rfl, hB6⟩
  have q6 := q5.trans (hB6.mono q5.size)
  clear t0 t1 t2 t3
  obtain ⟨t0, t1, t2, t3⟩ := HS.out _ q6
  go_wp2_with fail
  refine (M4.out _ (hB5.trans (hB6.mono hB5.size))).mono ?_
  rintro e w7 ⟨rfl, hB7⟩
  have q57 := (hB5.trans (hB6.mono hB5.size)).trans (hB7.mono (hB5.trans (hB6.mono hB5.size)).size)
  have q7 := q6.trans (hB7.mono q6.size)
  go_wp2_with fail
  refine (Y4.out _ q57).mono ?_
  rintro e w8 ⟨bb, rfl, hbb, hB8⟩
  have q8 := q7.trans (hB8.mono q7.size)
  obtain rfl : bb = true := hbb.2 begD_ok
  go_wp2_with fail
  go_ret
  exact ⟨rfl, hBk.out.trans (q8.mono hBk.out.size)⟩
end Go.Proofs.Ytlkhmpfdajefiaa.law8
