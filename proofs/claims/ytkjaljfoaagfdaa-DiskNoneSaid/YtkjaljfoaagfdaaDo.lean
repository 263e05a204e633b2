/- One operation on the program's disk and on the document's: they answer alike, and stay the same disk. Conditions: what the operation reads as; the disks are good ones. -/
import Derived.Test.YtkjaljfoaagfdaaBoth
import Derived.Test.YtkjaljfoaagfdaaDsG
import Derived.Test.YtkjaljfoaagfdaaRef4b
import Derived.Test.YtkjaljfoaagfdaaRef4c
import Derived.Test.YtkjaljfoaagfdaaLaw0
import Derived.BigQuiet
import Derived.Deep.Cut
import Derived.Deep.RegionHeld3
namespace Go.Proofs.Ytkjaljfoaagfdaa.both
open Go.RowKit Go.Proofs.Ytkjaljfoaagfdaa.kit Go.Proofs.Ytkjaljfoaagfdaa.nums Go.Proofs.Ytkjaljfoaagfdaa.ds Go.Proofs.Ytkjaljfoaagfdaa.disk Go.Proofs.Ytkjaljfoaagfdaa.ref4 Go.Proofs.Ytkjaljfoaagfdaa.bytes Go.Proofs.Ytkjaljfoaagfdaa.law0
set_option linter.unusedVariables false

/-- What an operation makes of a disk. -/
def opS (S : DS) (x : OpL) : DS :=
  if placeF x.kind 6 = 0 then S.appS x.f x.b else if placeF x.kind 6 = 1 then S.syncS x.f else if placeF x.kind 6 = 2 then S.clearS x.f else if placeF x.kind 6 = 3 then S else if placeF x.kind 6 = 4 then S.armS x.n else S.powS x.keep
/-- What 'do' ends in. -/
def RetDo (w : World) (B a g : Nat) (S' : DS) (e : Ending) (w' : World) : Prop := ∃ fp', e = .returned (.bool true) ∧ Both w' B a g S' fp' ∧ Below B w w'
section
variable (B a g : Nat) (S : DS) (fp : Nat → Prop) (x : OpL) (v3 v4 : Value) (w : World) (h : Both w B a g S fp) (hs : S.stepped ≤ 1000000) (hp : S.powers ≤ 1000000) (hx : OpOk x) (hv : OpV w B x v3 v4) (hB : B ≤ w.heap.size)
include h hs hp hx hv hB

set_option maxHeartbeats 1000000 in
theorem do_sync (hkind : placeF x.kind 6 = 1) :
    Calls Try.prog 13 #[.pointer (some ⟨a, 0, none⟩), .pointer (some ⟨g, 0, none⟩), .agg #[.int .i64 x.kind, .int .i64 x.f, .int .i64 x.n, v3, v4]] w (RetDo w B a g (opS S x)) := by
  have HS := Lib.hid (show opS S x = S.syncS x.f by unfold opS; rw [if_neg (by omega), if_pos hkind])
  go_enter Try.func13, Try.ntmps13
  go_wp2_with fail
  have CP := Lib.hid (place_any x.kind 6 (w.alloc (.cells #[.int .i64 x.kind, .int .i64 x.f, .int .i64 x.n, v3, v4] 33)) hx.kind.1 hx.kind.2 (by omega))
  have hb0 := h.below (w' := (w.alloc (.cells #[.int .i64 x.kind, .int .i64 x.f, .int .i64 x.n, v3, v4] 33))) ((Below.refl _ _).alloc (Nat.le_refl _) _)
  have hblk : Blk 33 (w.alloc (.cells #[.int .i64 x.kind, .int .i64 x.f, .int .i64 x.n, v3, v4] 33)) w.heap.size [.int .i64 x.kind, .int .i64 x.f, .int .i64 x.n, v3, v4] := heap_alloc_new w _
  have hB0 : Below B w (w.alloc (.cells #[.int .i64 x.kind, .int .i64 x.f, .int .i64 x.n, v3, v4] 33)) := (Below.refl _ _).alloc hB _
  have hgo2 : ¬ fp w.heap.size := fun hf => by have := h.d.lt _ hf; omega
  have hgg : w.heap.size ≠ g := by have := h.r.lt; omega
  have hgB : B ≤ w.heap.size := hB
  have hv1 := hv.below hB0
  rw [hkind] at CP
  clear h hv
  generalize (w.alloc (.cells #[.int .i64 x.kind, .int .i64 x.f, .int .i64 x.n, v3, v4] 33)) = w1 at *
  generalize w.heap.size = go at *
  have hgo1 : go < w1.heap.size := hblk.lt
  have hB1 : B ≤ w1.heap.size := by omega
  have c1 : w1.cell? ⟨go, 1, none⟩ = some (.int .i64 x.f) := by rw [hblk.cell]; rfl
  have c2 : w1.cell? ⟨go, 2, none⟩ = some (.int .i64 x.n) := by rw [hblk.cell]; rfl
  have c3 : w1.cell? ⟨go, 3, none⟩ = some v3 := by rw [hblk.cell]; rfl
  have c4 : w1.cell? ⟨go, 4, none⟩ = some v4 := by rw [hblk.cell]; rfl
  refine CP.out.mono ?_
  clear CP
  rintro e w2 ⟨rfl, rfl⟩
  have hb1 : Both w1.drew B a g S fp := hb0.same (fun _ _ => rfl) rfl
  have hc0 : w1.drew.cell? ⟨go, 1, none⟩ = some (.int .i64 x.f) := c1
  have C1 := Lib.hid (disk.sync_any a S fp w1.drew hb1.d hb1.good hs hp x.f)
  have C2f := Lib.hid (fun y (hI : IsRef y g S) => ref4.sync_any g S x.f y hI hb1.good hs)
  have HSG := Lib.hid (hb1.good.sync (f := x.f) hs)
  clear c1 c2 c3 c4
  go_upto_region 8 with (fail)
  refine wp_region_held_drew (S := fun w' => w'.cell? ⟨go, 1, none⟩ = some (.int .i64 x.f)) (by kernel_rfl) ?s_0 (fun hHeld => ?_)
  case s_0 => exact hc0
  refine wpAnyH_take (i := 0) (oi := { dst := some 46, op := Go.Op.move (Go.Operand.tmp 0), type := 25, pos := "law.go:51", after := #[], guard := none }) (v := ?v_0_7) rfl (by kernel_rfl) (by kernel_rfl) (by kernel_rfl) (fun _ _ _ h => h) (Or.inl ⟨by rfl, ?y_0_7⟩) (by assumption) ?_
  case y_0_7 => (intro wq hSw; (try dsimp only at hSw); go_simp; first | done | with_reducible rfl)
  try simp only [Act.put, List.setIfInBounds_toArray, List.set_cons_zero, List.set_cons_succ]
  refine wpAnyH_take (i := 1) (oi := { dst := some 47, op := Go.Op.fieldAddr 33 (Go.Operand.tmp 5) 1, type := 0, pos := "law.go:51", after := #[], guard := none }) (v := ?v_1_7) rfl (by kernel_rfl) (by kernel_rfl) (by kernel_rfl) (fun _ _ _ h => h) (Or.inl ⟨by rfl, ?y_1_7⟩) (by assumption) ?_
  case y_1_7 => (intro wq hSw; (try dsimp only at hSw); go_simp; first | done | with_reducible rfl)
  try simp only [Act.put, List.setIfInBounds_toArray, List.set_cons_zero, List.set_cons_succ]
  refine wpAnyH_take (i := 2) (oi := { dst := some 48, op := Go.Op.load 3 (Go.Operand.tmp 47), type := 3, pos := "law.go:51", after := #[{ on := 1, ground := Go.Ground.data }], guard := none }) (v := ?v_2_7) rfl (by kernel_rfl) (by kernel_rfl) (by kernel_rfl) (fun _ _ _ h => h) (Or.inl ⟨by rfl, ?y_2_7⟩) (by assumption) ?_
  case y_2_7 => (intro wq hSw; (try dsimp only at hSw); go_simp; first | done | with_reducible rfl)
  try simp only [Act.put, List.setIfInBounds_toArray, List.set_cons_zero, List.set_cons_succ]
  refine wpAnyH_take (i := 4) (oi := { dst := some 50, op := Go.Op.move (Go.Operand.tmp 1), type := 27, pos := "law.go:51", after := #[], guard := none }) (v := ?v_4_7) rfl (by kernel_rfl) (by kernel_rfl) (by kernel_rfl) (fun _ _ _ h => h) (Or.inl ⟨by rfl, ?y_4_7⟩) (by assumption) ?_
  case y_4_7 => (intro wq hSw; (try dsimp only at hSw); go_simp; first | done | with_reducible rfl)
  try simp only [Act.put, List.setIfInBounds_toArray, List.set_cons_zero, List.set_cons_succ]
  refine wpAnyH_take (i := 5) (oi := { dst := some 51, op := Go.Op.fieldAddr 33 (Go.Operand.tmp 5) 1, type := 0, pos := "law.go:51", after := #[], guard := none }) (v := ?v_5_7) rfl (by kernel_rfl) (by kernel_rfl) (by kernel_rfl) (fun _ _ _ h => h) (Or.inl ⟨by rfl, ?y_5_7⟩) (by assumption) ?_
  case y_5_7 => (intro wq hSw; (try dsimp only at hSw); go_simp; first | done | with_reducible rfl)
  try simp only [Act.put, List.setIfInBounds_toArray, List.set_cons_zero, List.set_cons_succ]
  refine wpAnyH_take (i := 6) (oi := { dst := some 52, op := Go.Op.load 3 (Go.Operand.tmp 51), type := 3, pos := "law.go:51", after := #[{ on := 5, ground := Go.Ground.data }], guard := none }) (v := ?v_6_7) rfl (by kernel_rfl) (by kernel_rfl) (by kernel_rfl) (fun _ _ _ h => h) (Or.inl ⟨by rfl, ?y_6_7⟩) (by assumption) ?_
  case y_6_7 => (intro wq hSw; (try dsimp only at hSw); go_simp; first | done | with_reducible rfl)
  try simp only [Act.put, List.setIfInBounds_toArray, List.set_cons_zero, List.set_cons_succ]
  refine wpAnyH_ready (rs := [3]) (by kernel_rfl) (by simp) ?_
  refine AllReadyH.cons (o := { dst := some 49, op := Go.Op.call { callee := Go.Callee.value (Go.Operand.func 19), args := #[Go.Operand.tmp 46, Go.Operand.tmp 48], argTypes := #[25, 3] }, type := 38, pos := "law.go:51", after := #[{ on := 0, ground := Go.Ground.data }, { on := 2, ground := Go.Ground.data }], guard := none }) rfl (fun KQ hKQ => ?_) AllReadyH.nil
  go_simp
  refine C1.out.mono ?_
  rintro e y1 ⟨fp1, rfl, hI1, hc1⟩
  obtain ⟨t1, t2, t3, t4⟩ := hb1.turned hB1 hI1 hc1
  have hcy : y1.cell? ⟨go, 1, none⟩ = some (.int .i64 x.f) := by rw [World.cell?_of_block (a := ⟨go, 1, none⟩) (hc1.block go hgo1 hgo2)]; exact hc0
  have C2 := Lib.hid (C2f.out y1 t3)
  go_wp2_with fail
  refine hKQ.out _ _ ?s_3 (fun hHeld3 => ?_)
  case s_3 => exact hcy
  clear hKQ KQ
  try simp only [Act.put, List.setIfInBounds_toArray, List.set_cons_zero, List.set_cons_succ]
  refine wpAnyH_ready (rs := [7]) (by kernel_rfl) (by simp) ?_
  refine AllReadyH.cons (o := { dst := some 53, op := Go.Op.call { callee := Go.Callee.value (Go.Operand.func 32), args := #[Go.Operand.tmp 50, Go.Operand.tmp 52], argTypes := #[27, 3] }, type := 38, pos := "law.go:51", after := #[{ on := 4, ground := Go.Ground.data }, { on := 6, ground := Go.Ground.data }, { on := 3, ground := Go.Ground.chain }], guard := none }) rfl (fun KQ hKQ => ?_) AllReadyH.nil
  go_simp
  refine C2.out.mono ?_
  rintro e y2 ⟨rfl, hR2, hG2⟩
  have hcy2 : y2.cell? ⟨go, 1, none⟩ = some (.int .i64 x.f) := by rw [World.cell?_of_block (a := ⟨go, 1, none⟩) (hG2.block go (Nat.lt_of_lt_of_le hgo1 hc1.size) (by simpa using hgg))]; exact hcy
  go_wp2_with fail
  refine hKQ.out _ _ ?s_7 (fun hHeld7 => ?_)
  case s_7 => exact hcy2
  clear hKQ KQ
  try simp only [Act.put, List.setIfInBounds_toArray, List.set_cons_zero, List.set_cons_succ]
  refine wpAnyH_take (i := 8) (oi := { dst := some 54, op := Go.Op.binOp Go.BinOp.eql 38 (Go.Operand.tmp 49) (Go.Operand.tmp 53) 38, type := 4, pos := "law.go:51", after := #[{ on := 3, ground := Go.Ground.data }, { on := 7, ground := Go.Ground.data }], guard := none }) (v := ?v_8_7) rfl (by kernel_rfl) (by kernel_rfl) (by kernel_rfl) (fun _ _ _ h => h) (Or.inl ⟨by rfl, ?y_8_7⟩) (by assumption) ?_
  case y_8_7 => (intro wq hSw; (try dsimp only at hSw); go_simp; first | done | with_reducible rfl)
  try simp only [Act.put, List.setIfInBounds_toArray, List.set_cons_zero, List.set_cons_succ]
  refine wpAnyH_take (i := 9) (oi := { dst := some 6, op := Go.Op.assign (Go.Operand.tmp 54), type := 4, pos := "law.go:51", after := #[{ on := 8, ground := Go.Ground.data }, { on := 7, ground := Go.Ground.chain }, { on := 0, ground := Go.Ground.phase }, { on := 1, ground := Go.Ground.phase }, { on := 2, ground := Go.Ground.phase }, { on := 3, ground := Go.Ground.phase }, { on := 4, ground := Go.Ground.phase }, { on := 5, ground := Go.Ground.phase }, { on := 6, ground := Go.Ground.phase }, { on := 7, ground := Go.Ground.phase }, { on := 8, ground := Go.Ground.phase }], guard := none }) (v := ?v_9_7) rfl (by kernel_rfl) (by kernel_rfl) (by kernel_rfl) (fun _ _ _ h => h) (Or.inl ⟨by rfl, ?y_9_7⟩) (by assumption) ?_
  case y_9_7 => (intro wq hSw; (try dsimp only at hSw); go_simp; first | done | with_reducible rfl)
  try simp only [Act.put, List.setIfInBounds_toArray, List.set_cons_zero, List.set_cons_succ]
  refine wpAnyH_done (by kernel_rfl) ?_ _
  go_wp2_with fail
  go_ret
  exact ⟨fp1, rfl, by rw [HS.out]; exact Both.met hI1 hR2 hG2 t1 t2 hb1.gB HSG.out, (hB0.drew.trans t4).trans (below_of_grown hG2 hb1.gB (Nat.le_trans hB1 hc1.size))⟩
set_option maxHeartbeats 1000000 in
theorem do_clear (hkind : placeF x.kind 6 = 2) :
    Calls Try.prog 13 #[.pointer (some ⟨a, 0, none⟩), .pointer (some ⟨g, 0, none⟩), .agg #[.int .i64 x.kind, .int .i64 x.f, .int .i64 x.n, v3, v4]] w (RetDo w B a g (opS S x)) := by
  have HS := Lib.hid (show opS S x = S.clearS x.f by unfold opS; rw [if_neg (by omega), if_neg (by omega), if_pos hkind])
  go_enter Try.func13, Try.ntmps13
  go_wp2_with fail
  have CP := Lib.hid (place_any x.kind 6 (w.alloc (.cells #[.int .i64 x.kind, .int .i64 x.f, .int .i64 x.n, v3, v4] 33)) hx.kind.1 hx.kind.2 (by omega))
  have hb0 := h.below (w' := (w.alloc (.cells #[.int .i64 x.kind, .int .i64 x.f, .int .i64 x.n, v3, v4] 33))) ((Below.refl _ _).alloc (Nat.le_refl _) _)
  have hblk : Blk 33 (w.alloc (.cells #[.int .i64 x.kind, .int .i64 x.f, .int .i64 x.n, v3, v4] 33)) w.heap.size [.int .i64 x.kind, .int .i64 x.f, .int .i64 x.n, v3, v4] := heap_alloc_new w _
  have hB0 : Below B w (w.alloc (.cells #[.int .i64 x.kind, .int .i64 x.f, .int .i64 x.n, v3, v4] 33)) := (Below.refl _ _).alloc hB _
  have hgo2 : ¬ fp w.heap.size := fun hf => by have := h.d.lt _ hf; omega
  have hgg : w.heap.size ≠ g := by have := h.r.lt; omega
  have hgB : B ≤ w.heap.size := hB
  have hv1 := hv.below hB0
  rw [hkind] at CP
  clear h hv
  generalize (w.alloc (.cells #[.int .i64 x.kind, .int .i64 x.f, .int .i64 x.n, v3, v4] 33)) = w1 at *
  generalize w.heap.size = go at *
  have hgo1 : go < w1.heap.size := hblk.lt
  have hB1 : B ≤ w1.heap.size := by omega
  have c1 : w1.cell? ⟨go, 1, none⟩ = some (.int .i64 x.f) := by rw [hblk.cell]; rfl
  have c2 : w1.cell? ⟨go, 2, none⟩ = some (.int .i64 x.n) := by rw [hblk.cell]; rfl
  have c3 : w1.cell? ⟨go, 3, none⟩ = some v3 := by rw [hblk.cell]; rfl
  have c4 : w1.cell? ⟨go, 4, none⟩ = some v4 := by rw [hblk.cell]; rfl
  refine CP.out.mono ?_
  clear CP
  rintro e w2 ⟨rfl, rfl⟩
  have hb1 : Both w1.drew B a g S fp := hb0.same (fun _ _ => rfl) rfl
  have hc0 : w1.drew.cell? ⟨go, 1, none⟩ = some (.int .i64 x.f) := c1
  have C1 := Lib.hid (disk.clear_any a S fp w1.drew hb1.d hb1.good hs hp x.f)
  have C2f := Lib.hid (fun y (hI : IsRef y g S) => ref4.clear_any g S x.f y hI hb1.good hs)
  have HSG := Lib.hid (hb1.good.clear (f := x.f) hs)
  clear c1 c2 c3 c4
  go_upto_region 10 with (fail)
  refine wp_region_held_drew (S := fun w' => w'.cell? ⟨go, 1, none⟩ = some (.int .i64 x.f)) (by kernel_rfl) ?s_0 (fun hHeld => ?_)
  case s_0 => exact hc0
  refine wpAnyH_take (i := 0) (oi := { dst := some 57, op := Go.Op.move (Go.Operand.tmp 0), type := 25, pos := "law.go:53", after := #[], guard := none }) (v := ?v_0_8) rfl (by kernel_rfl) (by kernel_rfl) (by kernel_rfl) (fun _ _ _ h => h) (Or.inl ⟨by rfl, ?y_0_8⟩) (by assumption) ?_
  case y_0_8 => (intro wq hSw; (try dsimp only at hSw); go_simp; first | done | with_reducible rfl)
  try simp only [Act.put, List.setIfInBounds_toArray, List.set_cons_zero, List.set_cons_succ]
  refine wpAnyH_take (i := 1) (oi := { dst := some 58, op := Go.Op.fieldAddr 33 (Go.Operand.tmp 5) 1, type := 0, pos := "law.go:53", after := #[], guard := none }) (v := ?v_1_8) rfl (by kernel_rfl) (by kernel_rfl) (by kernel_rfl) (fun _ _ _ h => h) (Or.inl ⟨by rfl, ?y_1_8⟩) (by assumption) ?_
  case y_1_8 => (intro wq hSw; (try dsimp only at hSw); go_simp; first | done | with_reducible rfl)
  try simp only [Act.put, List.setIfInBounds_toArray, List.set_cons_zero, List.set_cons_succ]
  refine wpAnyH_take (i := 2) (oi := { dst := some 59, op := Go.Op.load 3 (Go.Operand.tmp 58), type := 3, pos := "law.go:53", after := #[{ on := 1, ground := Go.Ground.data }], guard := none }) (v := ?v_2_8) rfl (by kernel_rfl) (by kernel_rfl) (by kernel_rfl) (fun _ _ _ h => h) (Or.inl ⟨by rfl, ?y_2_8⟩) (by assumption) ?_
  case y_2_8 => (intro wq hSw; (try dsimp only at hSw); go_simp; first | done | with_reducible rfl)
  try simp only [Act.put, List.setIfInBounds_toArray, List.set_cons_zero, List.set_cons_succ]
  refine wpAnyH_take (i := 4) (oi := { dst := some 61, op := Go.Op.move (Go.Operand.tmp 1), type := 27, pos := "law.go:53", after := #[], guard := none }) (v := ?v_4_8) rfl (by kernel_rfl) (by kernel_rfl) (by kernel_rfl) (fun _ _ _ h => h) (Or.inl ⟨by rfl, ?y_4_8⟩) (by assumption) ?_
  case y_4_8 => (intro wq hSw; (try dsimp only at hSw); go_simp; first | done | with_reducible rfl)
  try simp only [Act.put, List.setIfInBounds_toArray, List.set_cons_zero, List.set_cons_succ]
  refine wpAnyH_take (i := 5) (oi := { dst := some 62, op := Go.Op.fieldAddr 33 (Go.Operand.tmp 5) 1, type := 0, pos := "law.go:53", after := #[], guard := none }) (v := ?v_5_8) rfl (by kernel_rfl) (by kernel_rfl) (by kernel_rfl) (fun _ _ _ h => h) (Or.inl ⟨by rfl, ?y_5_8⟩) (by assumption) ?_
  case y_5_8 => (intro wq hSw; (try dsimp only at hSw); go_simp; first | done | with_reducible rfl)
  try simp only [Act.put, List.setIfInBounds_toArray, List.set_cons_zero, List.set_cons_succ]
  refine wpAnyH_take (i := 6) (oi := { dst := some 63, op := Go.Op.load 3 (Go.Operand.tmp 62), type := 3, pos := "law.go:53", after := #[{ on := 5, ground := Go.Ground.data }], guard := none }) (v := ?v_6_8) rfl (by kernel_rfl) (by kernel_rfl) (by kernel_rfl) (fun _ _ _ h => h) (Or.inl ⟨by rfl, ?y_6_8⟩) (by assumption) ?_
  case y_6_8 => (intro wq hSw; (try dsimp only at hSw); go_simp; first | done | with_reducible rfl)
  try simp only [Act.put, List.setIfInBounds_toArray, List.set_cons_zero, List.set_cons_succ]
  refine wpAnyH_ready (rs := [3]) (by kernel_rfl) (by simp) ?_
  refine AllReadyH.cons (o := { dst := some 60, op := Go.Op.call { callee := Go.Callee.value (Go.Operand.func 20), args := #[Go.Operand.tmp 57, Go.Operand.tmp 59], argTypes := #[25, 3] }, type := 38, pos := "law.go:53", after := #[{ on := 0, ground := Go.Ground.data }, { on := 2, ground := Go.Ground.data }], guard := none }) rfl (fun KQ hKQ => ?_) AllReadyH.nil
  go_simp
  refine C1.out.mono ?_
  rintro e y1 ⟨fp1, rfl, hI1, hc1⟩
  obtain ⟨t1, t2, t3, t4⟩ := hb1.turned hB1 hI1 hc1
  have hcy : y1.cell? ⟨go, 1, none⟩ = some (.int .i64 x.f) := by rw [World.cell?_of_block (a := ⟨go, 1, none⟩) (hc1.block go hgo1 hgo2)]; exact hc0
  have C2 := Lib.hid (C2f.out y1 t3)
  go_wp2_with fail
  refine hKQ.out _ _ ?s_3 (fun hHeld3 => ?_)
  case s_3 => exact hcy
  clear hKQ KQ
  try simp only [Act.put, List.setIfInBounds_toArray, List.set_cons_zero, List.set_cons_succ]
  refine wpAnyH_ready (rs := [7]) (by kernel_rfl) (by simp) ?_
  refine AllReadyH.cons (o := { dst := some 64, op := Go.Op.call { callee := Go.Callee.value (Go.Operand.func 33), args := #[Go.Operand.tmp 61, Go.Operand.tmp 63], argTypes := #[27, 3] }, type := 38, pos := "law.go:53", after := #[{ on := 4, ground := Go.Ground.data }, { on := 6, ground := Go.Ground.data }, { on := 3, ground := Go.Ground.chain }], guard := none }) rfl (fun KQ hKQ => ?_) AllReadyH.nil
  go_simp
  refine C2.out.mono ?_
  rintro e y2 ⟨rfl, hR2, hG2⟩
  have hcy2 : y2.cell? ⟨go, 1, none⟩ = some (.int .i64 x.f) := by rw [World.cell?_of_block (a := ⟨go, 1, none⟩) (hG2.block go (Nat.lt_of_lt_of_le hgo1 hc1.size) (by simpa using hgg))]; exact hcy
  go_wp2_with fail
  refine hKQ.out _ _ ?s_7 (fun hHeld7 => ?_)
  case s_7 => exact hcy2
  clear hKQ KQ
  try simp only [Act.put, List.setIfInBounds_toArray, List.set_cons_zero, List.set_cons_succ]
  refine wpAnyH_take (i := 8) (oi := { dst := some 65, op := Go.Op.binOp Go.BinOp.eql 38 (Go.Operand.tmp 60) (Go.Operand.tmp 64) 38, type := 4, pos := "law.go:53", after := #[{ on := 3, ground := Go.Ground.data }, { on := 7, ground := Go.Ground.data }], guard := none }) (v := ?v_8_8) rfl (by kernel_rfl) (by kernel_rfl) (by kernel_rfl) (fun _ _ _ h => h) (Or.inl ⟨by rfl, ?y_8_8⟩) (by assumption) ?_
  case y_8_8 => (intro wq hSw; (try dsimp only at hSw); go_simp; first | done | with_reducible rfl)
  try simp only [Act.put, List.setIfInBounds_toArray, List.set_cons_zero, List.set_cons_succ]
  refine wpAnyH_take (i := 9) (oi := { dst := some 6, op := Go.Op.assign (Go.Operand.tmp 65), type := 4, pos := "law.go:53", after := #[{ on := 8, ground := Go.Ground.data }, { on := 7, ground := Go.Ground.chain }, { on := 0, ground := Go.Ground.phase }, { on := 1, ground := Go.Ground.phase }, { on := 2, ground := Go.Ground.phase }, { on := 3, ground := Go.Ground.phase }, { on := 4, ground := Go.Ground.phase }, { on := 5, ground := Go.Ground.phase }, { on := 6, ground := Go.Ground.phase }, { on := 7, ground := Go.Ground.phase }, { on := 8, ground := Go.Ground.phase }], guard := none }) (v := ?v_9_8) rfl (by kernel_rfl) (by kernel_rfl) (by kernel_rfl) (fun _ _ _ h => h) (Or.inl ⟨by rfl, ?y_9_8⟩) (by assumption) ?_
  case y_9_8 => (intro wq hSw; (try dsimp only at hSw); go_simp; first | done | with_reducible rfl)
  try simp only [Act.put, List.setIfInBounds_toArray, List.set_cons_zero, List.set_cons_succ]
  refine wpAnyH_done (by kernel_rfl) ?_ _
  go_wp2_with fail
  go_ret
  exact ⟨fp1, rfl, by rw [HS.out]; exact Both.met hI1 hR2 hG2 t1 t2 hb1.gB HSG.out, (hB0.drew.trans t4).trans (below_of_grown hG2 hb1.gB (Nat.le_trans hB1 hc1.size))⟩
set_option maxHeartbeats 1000000 in
theorem do_read (hkind : placeF x.kind 6 = 3) :
    Calls Try.prog 13 #[.pointer (some ⟨a, 0, none⟩), .pointer (some ⟨g, 0, none⟩), .agg #[.int .i64 x.kind, .int .i64 x.f, .int .i64 x.n, v3, v4]] w (RetDo w B a g (opS S x)) := by
  have HS := Lib.hid (show opS S x = S by unfold opS; rw [if_neg (by omega), if_neg (by omega), if_neg (by omega), if_pos hkind])
  go_enter Try.func13, Try.ntmps13
  go_wp2_with fail
  have CP := Lib.hid (place_any x.kind 6 (w.alloc (.cells #[.int .i64 x.kind, .int .i64 x.f, .int .i64 x.n, v3, v4] 33)) hx.kind.1 hx.kind.2 (by omega))
  have hb0 := h.below (w' := (w.alloc (.cells #[.int .i64 x.kind, .int .i64 x.f, .int .i64 x.n, v3, v4] 33))) ((Below.refl _ _).alloc (Nat.le_refl _) _)
  have hblk : Blk 33 (w.alloc (.cells #[.int .i64 x.kind, .int .i64 x.f, .int .i64 x.n, v3, v4] 33)) w.heap.size [.int .i64 x.kind, .int .i64 x.f, .int .i64 x.n, v3, v4] := heap_alloc_new w _
  have hB0 : Below B w (w.alloc (.cells #[.int .i64 x.kind, .int .i64 x.f, .int .i64 x.n, v3, v4] 33)) := (Below.refl _ _).alloc hB _
  have hgo2 : ¬ fp w.heap.size := fun hf => by have := h.d.lt _ hf; omega
  have hgg : w.heap.size ≠ g := by have := h.r.lt; omega
  have hgB : B ≤ w.heap.size := hB
  have hv1 := hv.below hB0
  rw [hkind] at CP
  clear h hv
  generalize (w.alloc (.cells #[.int .i64 x.kind, .int .i64 x.f, .int .i64 x.n, v3, v4] 33)) = w1 at *
  generalize w.heap.size = go at *
  have hgo1 : go < w1.heap.size := hblk.lt
  have hB1 : B ≤ w1.heap.size := by omega
  have c1 : w1.cell? ⟨go, 1, none⟩ = some (.int .i64 x.f) := by rw [hblk.cell]; rfl
  have c2 : w1.cell? ⟨go, 2, none⟩ = some (.int .i64 x.n) := by rw [hblk.cell]; rfl
  have c3 : w1.cell? ⟨go, 3, none⟩ = some v3 := by rw [hblk.cell]; rfl
  have c4 : w1.cell? ⟨go, 4, none⟩ = some v4 := by rw [hblk.cell]; rfl
  refine CP.out.mono ?_
  clear CP
  rintro e w2 ⟨rfl, rfl⟩
  have C1 := Lib.hid (disk.read_any a S fp w1 hb0.d hb0.good hs hp x.f)
  clear c2 c3 c4
  go_wp2_with fail
  refine C1.out.mono ?_
  clear C1
  rintro e y1 ⟨A1, n1, k1, rfl, hl1, hO1, hY1⟩
  have hb1 := hb0.below hY1
  have c1' : y1.cell? ⟨go, 1, none⟩ = some (.int .i64 x.f) := by rw [hY1.cell (p := ⟨go, 1, none⟩) hgo1]; exact c1
  have C2 := Lib.hid (ref4.read_any g S x.f y1 hb1.r)
  clear c1
  go_wp2_with fail
  refine C2.out.mono ?_
  clear C2
  rintro e y2 ⟨rfl, rfl⟩
  have hs1 := run_string_rd (P := Try.prog) y1 30 5 9 Try.underlying30 Try.underlying5 Try.underlying9 y1.heap.size A1 n1 k1 _ (hO1.rd hl1)
  have C3 := Lib.hid (spoil_any A1 n1 k1 _ y1 _ hO1)
  have hlt1 := fun k e => (hO1.lt k e).1
  generalize strOfNums (S.readL x.f) = T at *
  generalize S.may x.f = me at *
  go_wp2_with fail
  refine C3.out.mono ?_
  clear C3
  rintro e y2 ⟨rfl, hG⟩
  have hz : Below w1.heap.size y1 y2 := (Below.refl _ _).grown hG hY1.size hlt1
  have hb2 : Both y2 B a g S fp := hb1.same (fun k hk => hz.block k (hb0.d.lt k hk)) (hz.block g hb0.r.lt)
  clear hs1 hG
  go_wp2_with fail
  go_ret
  exact ⟨fp, rfl, by rw [HS.out]; exact hb2, hB0.trans ((hY1.trans hz).mono hB1)⟩
set_option maxHeartbeats 1000000 in
theorem do_arm (hkind : placeF x.kind 6 = 4) :
    Calls Try.prog 13 #[.pointer (some ⟨a, 0, none⟩), .pointer (some ⟨g, 0, none⟩), .agg #[.int .i64 x.kind, .int .i64 x.f, .int .i64 x.n, v3, v4]] w (RetDo w B a g (opS S x)) := by
  have HS := Lib.hid (show opS S x = S.armS x.n by unfold opS; rw [if_neg (by omega), if_neg (by omega), if_neg (by omega), if_neg (by omega), if_pos hkind])
  go_enter Try.func13, Try.ntmps13
  go_wp2_with fail
  have CP := Lib.hid (place_any x.kind 6 (w.alloc (.cells #[.int .i64 x.kind, .int .i64 x.f, .int .i64 x.n, v3, v4] 33)) hx.kind.1 hx.kind.2 (by omega))
  have hb0 := h.below (w' := (w.alloc (.cells #[.int .i64 x.kind, .int .i64 x.f, .int .i64 x.n, v3, v4] 33))) ((Below.refl _ _).alloc (Nat.le_refl _) _)
  have hblk : Blk 33 (w.alloc (.cells #[.int .i64 x.kind, .int .i64 x.f, .int .i64 x.n, v3, v4] 33)) w.heap.size [.int .i64 x.kind, .int .i64 x.f, .int .i64 x.n, v3, v4] := heap_alloc_new w _
  have hB0 : Below B w (w.alloc (.cells #[.int .i64 x.kind, .int .i64 x.f, .int .i64 x.n, v3, v4] 33)) := (Below.refl _ _).alloc hB _
  have hgo2 : ¬ fp w.heap.size := fun hf => by have := h.d.lt _ hf; omega
  have hgg : w.heap.size ≠ g := by have := h.r.lt; omega
  have hgB : B ≤ w.heap.size := hB
  have hv1 := hv.below hB0
  rw [hkind] at CP
  clear h hv
  generalize (w.alloc (.cells #[.int .i64 x.kind, .int .i64 x.f, .int .i64 x.n, v3, v4] 33)) = w1 at *
  generalize w.heap.size = go at *
  have hgo1 : go < w1.heap.size := hblk.lt
  have hB1 : B ≤ w1.heap.size := by omega
  have c1 : w1.cell? ⟨go, 1, none⟩ = some (.int .i64 x.f) := by rw [hblk.cell]; rfl
  have c2 : w1.cell? ⟨go, 2, none⟩ = some (.int .i64 x.n) := by rw [hblk.cell]; rfl
  have c3 : w1.cell? ⟨go, 3, none⟩ = some v3 := by rw [hblk.cell]; rfl
  have c4 : w1.cell? ⟨go, 4, none⟩ = some v4 := by rw [hblk.cell]; rfl
  refine CP.out.mono ?_
  clear CP
  rintro e w2 ⟨rfl, rfl⟩
  have C1 := Lib.hid (disk.arm_any a S fp w1 hb0.d hb0.good hs hp x.n hx.n)
  have HSG := Lib.hid (hb0.good.arm hx.n)
  clear c1 c3 c4
  go_wp2_with fail
  refine C1.out.mono ?_
  clear C1
  rintro e y1 ⟨fp1, rfl, hI1, hc1⟩
  obtain ⟨t1, t2, t3, t4⟩ := hb0.turned hB1 hI1 hc1
  have c2' : y1.cell? ⟨go, 2, none⟩ = some (.int .i64 x.n) := by rw [World.cell?_of_block (a := ⟨go, 2, none⟩) (hc1.block go hgo1 hgo2)]; exact c2
  have c5 := t3.c5
  have df := fun i => Blk.frozen t3 i
  have HT := Lib.hid t3
  have hm : (if x.n < -1 then -1 else x.n) = max x.n (-1) := by split <;> omega
  clear c2 t3
  go_wp2_with fail
  go_ret
  exact ⟨fp1, rfl, by rw [HS.out]; exact Both.met hI1 (HT.out.set 5 _ (by simp [refV, DS.armS])) (grown_set _ _ _ _) t1 t2 hb0.gB HSG.out, (hB0.trans t4).trans (below_of_grown (grown_set _ _ _ _) hb0.gB (Nat.le_trans hB1 hc1.size))⟩
set_option maxHeartbeats 1000000 in
theorem do_power (hk : x.keep.length ≤ 10) (hkind : placeF x.kind 6 = 5) :
    Calls Try.prog 13 #[.pointer (some ⟨a, 0, none⟩), .pointer (some ⟨g, 0, none⟩), .agg #[.int .i64 x.kind, .int .i64 x.f, .int .i64 x.n, v3, v4]] w (RetDo w B a g (opS S x)) := by
  have HS := Lib.hid (show opS S x = S.powS x.keep by unfold opS; rw [if_neg (by omega), if_neg (by omega), if_neg (by omega), if_neg (by omega), if_neg (by omega)])
  go_enter Try.func13, Try.ntmps13
  go_wp2_with fail
  have CP := Lib.hid (place_any x.kind 6 (w.alloc (.cells #[.int .i64 x.kind, .int .i64 x.f, .int .i64 x.n, v3, v4] 33)) hx.kind.1 hx.kind.2 (by omega))
  have hb0 := h.below (w' := (w.alloc (.cells #[.int .i64 x.kind, .int .i64 x.f, .int .i64 x.n, v3, v4] 33))) ((Below.refl _ _).alloc (Nat.le_refl _) _)
  have hblk : Blk 33 (w.alloc (.cells #[.int .i64 x.kind, .int .i64 x.f, .int .i64 x.n, v3, v4] 33)) w.heap.size [.int .i64 x.kind, .int .i64 x.f, .int .i64 x.n, v3, v4] := heap_alloc_new w _
  have hB0 : Below B w (w.alloc (.cells #[.int .i64 x.kind, .int .i64 x.f, .int .i64 x.n, v3, v4] 33)) := (Below.refl _ _).alloc hB _
  have hgo2 : ¬ fp w.heap.size := fun hf => by have := h.d.lt _ hf; omega
  have hgg : w.heap.size ≠ g := by have := h.r.lt; omega
  have hgB : B ≤ w.heap.size := hB
  have hv1 := hv.below hB0
  rw [hkind] at CP
  clear h hv
  generalize (w.alloc (.cells #[.int .i64 x.kind, .int .i64 x.f, .int .i64 x.n, v3, v4] 33)) = w1 at *
  generalize w.heap.size = go at *
  have hgo1 : go < w1.heap.size := hblk.lt
  have hB1 : B ≤ w1.heap.size := by omega
  have c1 : w1.cell? ⟨go, 1, none⟩ = some (.int .i64 x.f) := by rw [hblk.cell]; rfl
  have c2 : w1.cell? ⟨go, 2, none⟩ = some (.int .i64 x.n) := by rw [hblk.cell]; rfl
  have c3 : w1.cell? ⟨go, 3, none⟩ = some v3 := by rw [hblk.cell]; rfl
  have c4 : w1.cell? ⟨go, 4, none⟩ = some v4 := by rw [hblk.cell]; rfl
  refine CP.out.mono ?_
  clear CP
  rintro e w2 ⟨rfl, rfl⟩
  have hk0 := (place_in x.kind 6 (by omega))
  obtain ⟨Ak, ck, rfl, hkc, hkm, hK⟩ := hv1.keep
  have hl2 : (x.keep.map (Value.int .i64)).length = x.keep.length := List.length_map ..
  have C1 := Lib.hid (disk.power_any a S fp w1 hb0.d hb0.good hs hp Ak x.keep.length ck x.keep (hK.more hB1) hx.keep (fun hn b o e hf => by
    obtain ⟨b', o', e', hlt, _⟩ := hK.2 hn
    rw [e] at e'
    simp only [Option.some.injEq, Addr.mk.injEq, and_true] at e'
    have := hb0.from_ b hf
    omega) (by omega))
  have HSG := Lib.hid (hb0.good.pow hp x.keep)
  clear c1 c2 c3
  go_wp2_with fail
  refine C1.out.mono ?_
  clear C1
  rintro e y1 ⟨fp1, rfl, hI1, hc1⟩
  obtain ⟨t1, t2, t3, t4⟩ := hb0.turned hB1 hI1 hc1
  have c4' : y1.cell? ⟨go, 4, none⟩ = some (.slice Ak x.keep.length ck) := by rw [World.cell?_of_block (a := ⟨go, 4, none⟩) (hc1.block go hgo1 hgo2)]; exact c4
  have hK1 := (hK.below t4).more (Nat.le_trans hB1 hc1.size)
  have C2 := Lib.hid (ref4.power_any g S Ak x.keep.length ck x.keep y1 t3 hb0.good hp hK1 hx.keep (fun hn b o e => by
    obtain ⟨b', o', e', hlt, _⟩ := hK.2 hn
    rw [e] at e'
    simp only [Option.some.injEq, Addr.mk.injEq, and_true] at e'
    have := hb0.gB
    omega) (by omega))
  clear c4 hK hK1
  go_wp2_with fail
  refine C2.out.mono ?_
  clear C2
  rintro e y2 ⟨rfl, hR2, hG2⟩
  go_wp2_with fail
  go_ret
  exact ⟨fp1, rfl, by rw [HS.out]; exact Both.met hI1 hR2 hG2 t1 t2 hb0.gB HSG.out, (hB0.trans t4).trans (below_of_grown hG2 hb0.gB (Nat.le_trans hB1 hc1.size))⟩
set_option maxHeartbeats 1000000 in
theorem do_append (hl : x.b.length ≤ 1000) (hkind : placeF x.kind 6 = 0) :
    Calls Try.prog 13 #[.pointer (some ⟨a, 0, none⟩), .pointer (some ⟨g, 0, none⟩), .agg #[.int .i64 x.kind, .int .i64 x.f, .int .i64 x.n, v3, v4]] w (RetDo w B a g (opS S x)) := by
  have HS := Lib.hid (show opS S x = S.appS x.f x.b by unfold opS; rw [if_pos hkind])
  go_enter Try.func13, Try.ntmps13
  go_wp2_with fail
  have CP := Lib.hid (place_any x.kind 6 (w.alloc (.cells #[.int .i64 x.kind, .int .i64 x.f, .int .i64 x.n, v3, v4] 33)) hx.kind.1 hx.kind.2 (by omega))
  have hb0 := h.below (w' := (w.alloc (.cells #[.int .i64 x.kind, .int .i64 x.f, .int .i64 x.n, v3, v4] 33))) ((Below.refl _ _).alloc (Nat.le_refl _) _)
  have hblk : Blk 33 (w.alloc (.cells #[.int .i64 x.kind, .int .i64 x.f, .int .i64 x.n, v3, v4] 33)) w.heap.size [.int .i64 x.kind, .int .i64 x.f, .int .i64 x.n, v3, v4] := heap_alloc_new w _
  have hB0 : Below B w (w.alloc (.cells #[.int .i64 x.kind, .int .i64 x.f, .int .i64 x.n, v3, v4] 33)) := (Below.refl _ _).alloc hB _
  have hgo2 : ¬ fp w.heap.size := fun hf => by have := h.d.lt _ hf; omega
  have hgg : w.heap.size ≠ g := by have := h.r.lt; omega
  have hgB : B ≤ w.heap.size := hB
  have hv1 := hv.below hB0
  rw [hkind] at CP
  clear h hv
  generalize (w.alloc (.cells #[.int .i64 x.kind, .int .i64 x.f, .int .i64 x.n, v3, v4] 33)) = w1 at *
  generalize w.heap.size = go at *
  have hgo1 : go < w1.heap.size := hblk.lt
  have hB1 : B ≤ w1.heap.size := by omega
  have c1 : w1.cell? ⟨go, 1, none⟩ = some (.int .i64 x.f) := by rw [hblk.cell]; rfl
  have c2 : w1.cell? ⟨go, 2, none⟩ = some (.int .i64 x.n) := by rw [hblk.cell]; rfl
  have c3 : w1.cell? ⟨go, 3, none⟩ = some v3 := by rw [hblk.cell]; rfl
  have c4 : w1.cell? ⟨go, 4, none⟩ = some v4 := by rw [hblk.cell]; rfl
  refine CP.out.mono ?_
  clear CP
  rintro e w2 ⟨rfl, rfl⟩
  obtain ⟨Ab, cb, rfl, hbc, hbm, hRb⟩ := hv1.b
  have CT := Lib.hid (twin_any Ab x.b.length cb x.b w1 (hRb.more hB1) (by omega))
  clear c2 c4
  go_wp2_with fail
  refine CT.out.mono ?_
  clear CT
  rintro e w2 ⟨rfl, hT, hX⟩
  have hb2 := hb0.below hX
  have hgt1 : ¬ fp w1.heap.size := fun hf => by have := hb0.d.lt _ hf; omega
  have hgt2 : w1.heap.size ≠ g := by have := hb0.r.lt; omega
  have hgt3 : w1.heap.size < w2.heap.size := hT.lt
  have hgo3 : go < w2.heap.size := by omega
  have hBgt : B ≤ w1.heap.size := hB1
  have c1' : w2.cell? ⟨go, 1, none⟩ = some (.int .i64 x.f) := by rw [hX.cell (p := ⟨go, 1, none⟩) hgo1]; exact c1
  have c3' : w2.cell? ⟨go, 3, none⟩ = some (.slice Ab x.b.length cb) := by rw [hX.cell (p := ⟨go, 3, none⟩) hgo1]; exact c3
  have hRb2 := hRb.below (hX.mono hB1)
  have hB02 : Below B w w2 := hB0.trans (hX.mono hB1)
  clear hb0 hblk hv1 hX hRb c1 c3 hB0
  generalize w1.heap.size = gt at *
  have hB1 : B ≤ w2.heap.size := by omega
  have hb1 : Both w2.drew B a g S fp := hb2.same (fun _ _ => rfl) rfl
  have hTd : IsTwin w2.drew gt x.b := hT
  have hRbd : Rd w2.drew B Ab x.b.length x.b := hRb2
  have C1 := Lib.hid (disk.append_any a S fp w2.drew hb1.d hb1.good hs hp x.f (some ⟨gt, 0, none⟩) x.b.length (x.b.length + 3) x.b (hTd.rd rfl hgt3) hx.b (by omega) (by omega) (by unfold maxLen; omega) (fun _ b o e => by simp only [Option.some.injEq, Addr.mk.injEq, and_true] at e; obtain ⟨rfl, _⟩ := e; exact hgt1))
  have C2f := Lib.hid (fun y (hI : IsRef y g S) => ref4.append_any g S x.f x.b y hI hb1.good hs (by omega))
  have HSG := Lib.hid (hb1.good.app (f := x.f) hs hx.b)
  have hcvf := fun wq (hq : Rd wq B Ab x.b.length x.b) => run_string_rd (P := Try.prog) wq 30 5 9 Try.underlying30 Try.underlying5 Try.underlying9 B Ab x.b.length cb x.b hq
  have hS0 : w2.drew.cell? ⟨go, 1, none⟩ = some (.int .i64 x.f) ∧ w2.drew.cell? ⟨go, 3, none⟩ = some (.slice Ab x.b.length cb) ∧ (convert 30 9 (.slice Ab x.b.length cb)).run Try.prog w2.drew = .ok (.string (strOfNums x.b)) w2.drew := ⟨c1', c3', hcvf _ hRbd⟩
  have hSk := Lib.hid (show ∀ y, (∀ k, k < w2.drew.heap.size → ¬ fp k → True → y.heap[k]? = w2.drew.heap[k]?) → Below B w2.drew y → y.cell? ⟨go, 1, none⟩ = some (.int .i64 x.f) ∧ y.cell? ⟨go, 3, none⟩ = some (.slice Ab x.b.length cb) ∧ (convert 30 9 (.slice Ab x.b.length cb)).run Try.prog y = .ok (.string (strOfNums x.b)) y from fun y hy hyB =>
    ⟨by rw [World.cell?_of_block (a := ⟨go, 1, none⟩) (hy go hgo3 hgo2 trivial)]; exact c1', by rw [World.cell?_of_block (a := ⟨go, 3, none⟩) (hy go hgo3 hgo2 trivial)]; exact c3', hcvf _ (hRbd.below hyB)⟩)
  have hSz := Lib.hid (show ∀ y z, (y.cell? ⟨go, 1, none⟩ = some (.int .i64 x.f) ∧ y.cell? ⟨go, 3, none⟩ = some (.slice Ab x.b.length cb) ∧ (convert 30 9 (.slice Ab x.b.length cb)).run Try.prog y = .ok (.string (strOfNums x.b)) y) → w2.drew.heap.size ≤ y.heap.size → Below B w2.drew y → y.grownBy z (some g) →
      z.cell? ⟨go, 1, none⟩ = some (.int .i64 x.f) ∧ z.cell? ⟨go, 3, none⟩ = some (.slice Ab x.b.length cb) ∧ (convert 30 9 (.slice Ab x.b.length cb)).run Try.prog z = .ok (.string (strOfNums x.b)) z from fun y z hy hsz hyB hG =>
    ⟨by rw [World.cell?_of_block (a := ⟨go, 1, none⟩) (hG.block go (Nat.lt_of_lt_of_le hgo3 hsz) (by simpa using hgg))]; exact hy.1, by rw [World.cell?_of_block (a := ⟨go, 3, none⟩) (hG.block go (Nat.lt_of_lt_of_le hgo3 hsz) (by simpa using hgg))]; exact hy.2.1, hcvf _ (hRbd.below (hyB.trans (below_of_grown hG hb1.gB (Nat.le_trans hB1 hsz))))⟩)
  have C3f := Lib.hid (show ∀ (fp1 : Nat → Prop) y z, Chg fp fp1 w2.drew y → Below B w2.drew y → y.grownBy z (some g) → Calls Try.prog 30 #[.slice (some ⟨gt, 0, none⟩) x.b.length (x.b.length + 3), .slice Ab x.b.length cb] z fun e w' => e = .returned (.bool true) ∧ z = w' from fun fp1 y z hc hyB hG => by
    have h1 : z.heap[gt]? = w2.drew.heap[gt]? := (hG.block gt (Nat.lt_of_lt_of_le hgt3 hc.size) (by simpa using hgt2)).trans (hc.block gt hgt3 hgt1)
    have hTz : IsTwin z gt x.b := by unfold IsTwin Blk at hTd ⊢; rw [h1]; exact hTd
    exact kept_any gt Ab x.b.length cb x.b z _ hTz (hRbd.below (hyB.trans (below_of_grown hG hb1.gB (Nat.le_trans hB1 hc.size)))) (by omega))
  have HT := Lib.hid hTd
  have HB := Lib.hid hB02
  clear hcvf hT hTd hRb2 hRbd c1' c3' hb2 hB02
  go_upto_region 4 with (fail)
  refine wp_region_held_drew (S := fun w' => w'.cell? ⟨go, 1, none⟩ = some (.int .i64 x.f) ∧ w'.cell? ⟨go, 3, none⟩ = some (.slice Ab x.b.length cb) ∧ (convert 30 9 (.slice Ab x.b.length cb)).run Try.prog w' = .ok (.string (strOfNums x.b)) w') (by kernel_rfl) ?s_0 (fun hHeld => ?_)
  case s_0 => exact hS0
  refine wpAnyH_take (i := 0) (oi := { dst := some 22, op := Go.Op.move (Go.Operand.tmp 0), type := 25, pos := "law.go:47", after := #[], guard := none }) (v := ?v_0_9) rfl (by kernel_rfl) (by kernel_rfl) (by kernel_rfl) (fun _ _ _ h => h) (Or.inl ⟨by rfl, ?y_0_9⟩) (by assumption) ?_
  case y_0_9 => (intro wq hSw; (try dsimp only at hSw); go_simp; first | done | with_reducible rfl)
  try simp only [Act.put, List.setIfInBounds_toArray, List.set_cons_zero, List.set_cons_succ]
  refine wpAnyH_take (i := 1) (oi := { dst := some 23, op := Go.Op.fieldAddr 33 (Go.Operand.tmp 5) 1, type := 0, pos := "law.go:47", after := #[], guard := none }) (v := ?v_1_9) rfl (by kernel_rfl) (by kernel_rfl) (by kernel_rfl) (fun _ _ _ h => h) (Or.inl ⟨by rfl, ?y_1_9⟩) (by assumption) ?_
  case y_1_9 => (intro wq hSw; (try dsimp only at hSw); go_simp; first | done | with_reducible rfl)
  try simp only [Act.put, List.setIfInBounds_toArray, List.set_cons_zero, List.set_cons_succ]
  refine wpAnyH_take (i := 2) (oi := { dst := some 24, op := Go.Op.load 3 (Go.Operand.tmp 23), type := 3, pos := "law.go:47", after := #[{ on := 1, ground := Go.Ground.data }], guard := none }) (v := ?v_2_9) rfl (by kernel_rfl) (by kernel_rfl) (by kernel_rfl) (fun _ _ _ h => h) (Or.inl ⟨by rfl, ?y_2_9⟩) (by assumption) ?_
  case y_2_9 => (intro wq hSw; (try dsimp only at hSw); go_simp; first | done | with_reducible rfl)
  try simp only [Act.put, List.setIfInBounds_toArray, List.set_cons_zero, List.set_cons_succ]
  refine wpAnyH_take (i := 3) (oi := { dst := some 25, op := Go.Op.move (Go.Operand.tmp 7), type := 30, pos := "law.go:47", after := #[], guard := none }) (v := ?v_3_9) rfl (by kernel_rfl) (by kernel_rfl) (by kernel_rfl) (fun _ _ _ h => h) (Or.inl ⟨by rfl, ?y_3_9⟩) (by assumption) ?_
  case y_3_9 => (intro wq hSw; (try dsimp only at hSw); go_simp; first | done | with_reducible rfl)
  try simp only [Act.put, List.setIfInBounds_toArray, List.set_cons_zero, List.set_cons_succ]
  refine wpAnyH_take (i := 5) (oi := { dst := some 27, op := Go.Op.move (Go.Operand.tmp 1), type := 27, pos := "law.go:47", after := #[], guard := none }) (v := ?v_5_9) rfl (by kernel_rfl) (by kernel_rfl) (by kernel_rfl) (fun _ _ _ h => h) (Or.inl ⟨by rfl, ?y_5_9⟩) (by assumption) ?_
  case y_5_9 => (intro wq hSw; (try dsimp only at hSw); go_simp; first | done | with_reducible rfl)
  try simp only [Act.put, List.setIfInBounds_toArray, List.set_cons_zero, List.set_cons_succ]
  refine wpAnyH_take (i := 6) (oi := { dst := some 28, op := Go.Op.fieldAddr 33 (Go.Operand.tmp 5) 1, type := 0, pos := "law.go:47", after := #[], guard := none }) (v := ?v_6_9) rfl (by kernel_rfl) (by kernel_rfl) (by kernel_rfl) (fun _ _ _ h => h) (Or.inl ⟨by rfl, ?y_6_9⟩) (by assumption) ?_
  case y_6_9 => (intro wq hSw; (try dsimp only at hSw); go_simp; first | done | with_reducible rfl)
  try simp only [Act.put, List.setIfInBounds_toArray, List.set_cons_zero, List.set_cons_succ]
  refine wpAnyH_take (i := 7) (oi := { dst := some 29, op := Go.Op.load 3 (Go.Operand.tmp 28), type := 3, pos := "law.go:47", after := #[{ on := 6, ground := Go.Ground.data }], guard := none }) (v := ?v_7_9) rfl (by kernel_rfl) (by kernel_rfl) (by kernel_rfl) (fun _ _ _ h => h) (Or.inl ⟨by rfl, ?y_7_9⟩) (by assumption) ?_
  case y_7_9 => (intro wq hSw; (try dsimp only at hSw); go_simp; first | done | with_reducible rfl)
  try simp only [Act.put, List.setIfInBounds_toArray, List.set_cons_zero, List.set_cons_succ]
  refine wpAnyH_take (i := 8) (oi := { dst := some 30, op := Go.Op.fieldAddr 33 (Go.Operand.tmp 5) 3, type := 0, pos := "law.go:47", after := #[], guard := none }) (v := ?v_8_9) rfl (by kernel_rfl) (by kernel_rfl) (by kernel_rfl) (fun _ _ _ h => h) (Or.inl ⟨by rfl, ?y_8_9⟩) (by assumption) ?_
  case y_8_9 => (intro wq hSw; (try dsimp only at hSw); go_simp; first | done | with_reducible rfl)
  try simp only [Act.put, List.setIfInBounds_toArray, List.set_cons_zero, List.set_cons_succ]
  refine wpAnyH_take (i := 9) (oi := { dst := some 31, op := Go.Op.load 30 (Go.Operand.tmp 30), type := 30, pos := "law.go:47", after := #[{ on := 8, ground := Go.Ground.data }], guard := none }) (v := ?v_9_9) rfl (by kernel_rfl) (by kernel_rfl) (by kernel_rfl) (fun _ _ _ h => h) (Or.inl ⟨by rfl, ?y_9_9⟩) (by assumption) ?_
  case y_9_9 => (intro wq hSw; (try dsimp only at hSw); go_simp; first | done | with_reducible rfl)
  try simp only [Act.put, List.setIfInBounds_toArray, List.set_cons_zero, List.set_cons_succ]
  refine wpAnyH_take (i := 10) (oi := { dst := some 32, op := Go.Op.convert 30 9 (Go.Operand.tmp 31), type := 9, pos := "law.go:47", after := #[{ on := 9, ground := Go.Ground.data }], guard := none }) (v := ?v_10_9) rfl (by kernel_rfl) (by kernel_rfl) (by kernel_rfl) (fun _ _ _ h => h) (Or.inl ⟨by rfl, ?y_10_9⟩) (by assumption) ?_
  case y_10_9 => (intro wq hSw; (try dsimp only at hSw); go_simp; first | done | with_reducible rfl)
  try simp only [Act.put, List.setIfInBounds_toArray, List.set_cons_zero, List.set_cons_succ]
  refine wpAnyH_ready (rs := [4]) (by kernel_rfl) (by simp) ?_
  refine AllReadyH.cons (o := { dst := some 26, op := Go.Op.call { callee := Go.Callee.value (Go.Operand.func 18), args := #[Go.Operand.tmp 22, Go.Operand.tmp 24, Go.Operand.tmp 25], argTypes := #[25, 3, 30] }, type := 38, pos := "law.go:47", after := #[{ on := 0, ground := Go.Ground.data }, { on := 2, ground := Go.Ground.data }, { on := 3, ground := Go.Ground.data }], guard := none }) rfl (fun KQ hKQ => ?_) AllReadyH.nil
  go_simp
  refine C1.out.mono ?_
  rintro e y1 ⟨fp1, rfl, hI1, hc1⟩
  obtain ⟨t1, t2, t3, t4⟩ := hb1.turned hB1 hI1 hc1
  have hsy := hSk.out y1 (fun k hk1 hk2 _ => hc1.block k hk1 hk2) t4
  have C2 := Lib.hid (C2f.out y1 t3)
  go_wp2_with fail
  refine hKQ.out _ _ ?s_4 (fun hHeld4 => ?_)
  case s_4 => exact hsy
  clear hKQ KQ
  try simp only [Act.put, List.setIfInBounds_toArray, List.set_cons_zero, List.set_cons_succ]
  refine wpAnyH_ready (rs := [11]) (by kernel_rfl) (by simp) ?_
  refine AllReadyH.cons (o := { dst := some 33, op := Go.Op.call { callee := Go.Callee.value (Go.Operand.func 29), args := #[Go.Operand.tmp 27, Go.Operand.tmp 29, Go.Operand.tmp 32], argTypes := #[27, 3, 9] }, type := 38, pos := "law.go:47", after := #[{ on := 5, ground := Go.Ground.data }, { on := 7, ground := Go.Ground.data }, { on := 10, ground := Go.Ground.data }, { on := 4, ground := Go.Ground.chain }], guard := none }) rfl (fun KQ hKQ => ?_) AllReadyH.nil
  go_simp
  refine C2.out.mono ?_
  rintro e y2 ⟨rfl, hR2, hG2⟩
  have hsz := hSz.out y1 y2 hsy hc1.size t4 hG2
  have C3 := Lib.hid (C3f.out fp1 y1 y2 hc1 t4 hG2)
  go_wp2_with fail
  refine hKQ.out _ _ ?s_11 (fun hHeld11 => ?_)
  case s_11 => exact hsz
  clear hKQ KQ
  try simp only [Act.put, List.setIfInBounds_toArray, List.set_cons_zero, List.set_cons_succ]
  refine wpAnyH_take (i := 12) (oi := { dst := some 34, op := Go.Op.binOp Go.BinOp.eql 38 (Go.Operand.tmp 26) (Go.Operand.tmp 33) 38, type := 4, pos := "law.go:47", after := #[{ on := 4, ground := Go.Ground.data }, { on := 11, ground := Go.Ground.data }], guard := none }) (v := ?v_12_9) rfl (by kernel_rfl) (by kernel_rfl) (by kernel_rfl) (fun _ _ _ h => h) (Or.inl ⟨by rfl, ?y_12_9⟩) (by assumption) ?_
  case y_12_9 => (intro wq hSw; (try dsimp only at hSw); go_simp; first | done | with_reducible rfl)
  try simp only [Act.put, List.setIfInBounds_toArray, List.set_cons_zero, List.set_cons_succ]
  refine wpAnyH_take (i := 13) (oi := { dst := some 35, op := Go.Op.move (Go.Operand.tmp 34), type := 4, pos := "law.go:47", after := #[{ on := 12, ground := Go.Ground.data }, { on := 11, ground := Go.Ground.chain }], guard := none }) (v := ?v_13_9) rfl (by kernel_rfl) (by kernel_rfl) (by kernel_rfl) (fun _ _ _ h => h) (Or.inl ⟨by rfl, ?y_13_9⟩) (by assumption) ?_
  case y_13_9 => (intro wq hSw; (try dsimp only at hSw); go_simp; first | done | with_reducible rfl)
  try simp only [Act.put, List.setIfInBounds_toArray, List.set_cons_zero, List.set_cons_succ]
  refine wpAnyH_take (i := 14) (oi := { dst := some 36, op := Go.Op.move (Go.Operand.tmp 7), type := 30, pos := "law.go:47", after := #[{ on := 13, ground := Go.Ground.guard }], guard := some (13, true) }) (v := ?v_14_9) rfl (by kernel_rfl) (by kernel_rfl) (by kernel_rfl) (fun _ _ _ h => h) (Or.inl ⟨by rfl, ?y_14_9⟩) (by assumption) ?_
  case y_14_9 => (intro wq hSw; (try dsimp only at hSw); go_simp; first | done | with_reducible rfl)
  try simp only [Act.put, List.setIfInBounds_toArray, List.set_cons_zero, List.set_cons_succ]
  refine wpAnyH_take (i := 15) (oi := { dst := some 37, op := Go.Op.fieldAddr 33 (Go.Operand.tmp 5) 3, type := 0, pos := "law.go:47", after := #[{ on := 13, ground := Go.Ground.guard }], guard := some (13, true) }) (v := ?v_15_9) rfl (by kernel_rfl) (by kernel_rfl) (by kernel_rfl) (fun _ _ _ h => h) (Or.inl ⟨by rfl, ?y_15_9⟩) (by assumption) ?_
  case y_15_9 => (intro wq hSw; (try dsimp only at hSw); go_simp; first | done | with_reducible rfl)
  try simp only [Act.put, List.setIfInBounds_toArray, List.set_cons_zero, List.set_cons_succ]
  refine wpAnyH_take (i := 16) (oi := { dst := some 38, op := Go.Op.load 30 (Go.Operand.tmp 37), type := 30, pos := "law.go:47", after := #[{ on := 15, ground := Go.Ground.data }, { on := 13, ground := Go.Ground.guard }], guard := some (13, true) }) (v := ?v_16_9) rfl (by kernel_rfl) (by kernel_rfl) (by kernel_rfl) (fun _ _ _ h => h) (Or.inl ⟨by rfl, ?y_16_9⟩) (by assumption) ?_
  case y_16_9 => (intro wq hSw; (try dsimp only at hSw); go_simp; first | done | with_reducible rfl)
  try simp only [Act.put, List.setIfInBounds_toArray, List.set_cons_zero, List.set_cons_succ]
  refine wpAnyH_ready (rs := [17]) (by kernel_rfl) (by simp) ?_
  refine AllReadyH.cons (o := { dst := some 39, op := Go.Op.call { callee := Go.Callee.value (Go.Operand.func 30), args := #[Go.Operand.tmp 36, Go.Operand.tmp 38], argTypes := #[30, 30] }, type := 4, pos := "law.go:47", after := #[{ on := 14, ground := Go.Ground.data }, { on := 16, ground := Go.Ground.data }, { on := 13, ground := Go.Ground.chain }, { on := 13, ground := Go.Ground.guard }], guard := some (13, true) }) rfl (fun KQ hKQ => ?_) AllReadyH.nil
  go_simp
  refine C3.out.mono ?_
  rintro e y3 ⟨rfl, rfl⟩
  go_wp2_with fail
  refine hKQ.out _ _ ?s_17 (fun hHeld17 => ?_)
  case s_17 => exact hsz
  clear hKQ KQ
  try simp only [Act.put, List.setIfInBounds_toArray, List.set_cons_zero, List.set_cons_succ]
  refine wpAnyH_take (i := 18) (oi := { dst := some 40, op := Go.Op.pick (Go.Operand.tmp 35) (Go.Operand.tmp 39) (Go.Operand.const (Go.Value.bool false)), type := 4, pos := "law.go:47", after := #[{ on := 13, ground := Go.Ground.data }, { on := 17, ground := Go.Ground.data }], guard := none }) (v := ?v_18_9) rfl (by kernel_rfl) (by kernel_rfl) (by kernel_rfl) (fun _ _ _ h => h) (Or.inl ⟨by rfl, ?y_18_9⟩) (by assumption) ?_
  case y_18_9 => (intro wq hSw; (try dsimp only at hSw); go_simp; first | done | with_reducible rfl)
  try simp only [Act.put, List.setIfInBounds_toArray, List.set_cons_zero, List.set_cons_succ]
  refine wpAnyH_take (i := 19) (oi := { dst := some 8, op := Go.Op.assign (Go.Operand.tmp 40), type := 4, pos := "law.go:47", after := #[{ on := 18, ground := Go.Ground.data }, { on := 17, ground := Go.Ground.chain }, { on := 0, ground := Go.Ground.phase }, { on := 1, ground := Go.Ground.phase }, { on := 2, ground := Go.Ground.phase }, { on := 3, ground := Go.Ground.phase }, { on := 4, ground := Go.Ground.phase }, { on := 5, ground := Go.Ground.phase }, { on := 6, ground := Go.Ground.phase }, { on := 7, ground := Go.Ground.phase }, { on := 8, ground := Go.Ground.phase }, { on := 9, ground := Go.Ground.phase }, { on := 10, ground := Go.Ground.phase }, { on := 11, ground := Go.Ground.phase }, { on := 12, ground := Go.Ground.phase }, { on := 13, ground := Go.Ground.phase }, { on := 14, ground := Go.Ground.phase }, { on := 15, ground := Go.Ground.phase }, { on := 16, ground := Go.Ground.phase }, { on := 17, ground := Go.Ground.phase }, { on := 18, ground := Go.Ground.phase }], guard := none }) (v := ?v_19_9) rfl (by kernel_rfl) (by kernel_rfl) (by kernel_rfl) (fun _ _ _ h => h) (Or.inl ⟨by rfl, ?y_19_9⟩) (by assumption) ?_
  case y_19_9 => (intro wq hSw; (try dsimp only at hSw); go_simp; first | done | with_reducible rfl)
  try simp only [Act.put, List.setIfInBounds_toArray, List.set_cons_zero, List.set_cons_succ]
  refine wpAnyH_done (by kernel_rfl) ?_ _
  have hTy : IsTwin y2 gt x.b := by
    have h1 : y2.heap[gt]? = w2.drew.heap[gt]? := (hG2.block gt (Nat.lt_of_lt_of_le hgt3 hc1.size) (by simpa using hgt2)).trans (hc1.block gt hgt3 hgt1)
    have h2 := HT.out
    unfold IsTwin Blk at h2 ⊢; rw [h1]; exact h2
  have hOw : Own 5 y2 gt (.slice (some ⟨gt, 0, none⟩) x.b.length (x.b.length + 3)) x.b := own_of_block (Nat.le_refl _) hTy rfl (by omega) (by omega) (by rw [u8s_length, List.length_append]; rfl) (by rw [u8s_append, ← u8s_length]; exact List.take_left)
  have E1 := Lib.hid (spoil_any (some ⟨gt, 0, none⟩) x.b.length (x.b.length + 3) x.b y2 gt hOw)
  have hBo := Both.met hI1 hR2 hG2 t1 t2 hb1.gB HSG.out
  have hfg : ¬ fp1 gt := fun hf => by
    rcases hc1.new gt hf with h1 | h1
    · exact hgt1 h1
    · have : w2.heap.size ≤ gt := h1
      omega
  have hBy := (HB.out.drew.trans t4).trans (below_of_grown hG2 hb1.gB (Nat.le_trans hB1 hc1.size))
  have hsy2 : B ≤ y2.heap.size := Nat.le_trans hB1 (Nat.le_trans hc1.size hG2.size)
  clear hsy hsz hSk hSz C1 C2 C2f C3 C3f hTy hOw hHeld
  go_wp2_with fail
  refine E1.out.mono ?_
  rintro e z1 ⟨rfl, hG⟩
  have hG' : y2.grownBy z1 (some gt) := hG
  have hB2 : Both z1 B a g (S.appS x.f x.b) fp1 := hBo.same (fun k hk => hG'.block k (hBo.d.lt k hk) (by intro e; simp at e; subst e; exact hfg hk)) (hG'.block g hBo.r.lt (by intro e; simp at e; exact hgt2 e.symm))
  clear E1 hG
  go_wp2_with fail
  go_ret
  exact ⟨fp1, rfl, by rw [HS.out]; exact hB2, hBy.trans (below_of_grown hG' hBgt hsy2)⟩
/-- One operation on both. -/
theorem do_any (hl : x.b.length ≤ 1000) (hk : x.keep.length ≤ 10) :
    Calls Try.prog 13 #[.pointer (some ⟨a, 0, none⟩), .pointer (some ⟨g, 0, none⟩), .agg #[.int .i64 x.kind, .int .i64 x.f, .int .i64 x.n, v3, v4]] w (RetDo w B a g (opS S x)) := by
  have hk0 := place_in x.kind 6 (by omega)
  rcases (by omega : placeF x.kind 6 = 0 ∨ placeF x.kind 6 = 1 ∨ placeF x.kind 6 = 2 ∨ placeF x.kind 6 = 3 ∨ placeF x.kind 6 = 4 ∨ placeF x.kind 6 = 5) with h0 | h0 | h0 | h0 | h0 | h0
  · exact do_append B a g S fp x v3 v4 w h hs hp hx hv hB hl h0
  · exact do_sync B a g S fp x v3 v4 w h hs hp hx hv hB h0
  · exact do_clear B a g S fp x v3 v4 w h hs hp hx hv hB h0
  · exact do_read B a g S fp x v3 v4 w h hs hp hx hv hB h0
  · exact do_arm B a g S fp x v3 v4 w h hs hp hx hv hB h0
  · exact do_power B a g S fp x v3 v4 w h hs hp hx hv hB hk h0
end
theorem near_op (S : DS) (x : OpL) : DS.Near S (opS S x) := by
  unfold opS
  split
  · exact DS.Near.app _ _ _
  split
  · exact DS.Near.sync _ _
  split
  · exact DS.Near.clear _ _
  split
  · exact DS.Near.refl _
  split
  · exact ⟨Nat.le_succ _, Nat.le_succ _⟩
  · exact DS.Near.pow _ _
end Go.Proofs.Ytkjaljfoaagfdaa.both
