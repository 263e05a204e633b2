/- zone does something: begun of layer 11 answers true; which arguments are light. Condition: the library's table reads as its text lays it. -/
import Derived.Test.YtfcljdpjjabhjaaDoorZonF
import Derived.Test.YtfcljdpjjabhjaaDoorEqCf
namespace Go.Proofs.YtfcljdpjjabhjaaDoor.law11
open Go Go.RowKit Go.Proofs.YtfcljdpjjabhjaaDoor.kit Go.Proofs.YtfcljdpjjabhjaaDoor.nums Go.Proofs.YtfcljdpjjabhjaaDoor.se Go.Proofs.YtfcljdpjjabhjaaDoor.cf Go.Proofs.YtfcljdpjjabhjaaDoor.zn Go.Proofs.YtfcljdpjjabhjaaDoor.ref9 Go.Proofs.YtfcljdpjjabhjaaDoor.zoni
set_option linter.unusedVariables false

theorem eql_cf (v x l : Nat) (e k : Int) (w : World) : (binOp .eql 30 (.agg #[.int .u16 (v : Int), .int .u16 (x : Int), .int .u16 (l : Int), .int .i64 e, .int .i64 k]) (.agg #[.int .u16 (v : Int), .int .u16 (x : Int), .int .u16 (l : Int), .int .i64 e, .int .i64 k])).run Tryd.prog w = .ok (.bool true) w := by
  go_simp
theorem sl_lit (w : World) (E : TypeId) (l : List Int) (n : Nat) (hn : l.length = n) (w' : World) (hb : Below (w.alloc (.cells (i64s l).toArray E)).heap.size (w.alloc (.cells (i64s l).toArray E)) w') : RdV w' w'.heap.size (some ⟨w.heap.size, 0, none⟩) n (i64s l) := by
  have k : Blk E (w.alloc (.cells (i64s l).toArray E)) w.heap.size (i64s l) := heap_alloc_new w _
  exact rdv_blk (k.below hb k.lt) (by rw [i64s_length]; exact hn)
set_option maxRecDepth 10000 in
set_option maxHeartbeats 2000000 in
theorem begun_any (w : World) (hT : TabW w) : Calls Tryd.prog 7 #[] w fun e w' => e = .returned (.bool true) ∧ Below w.heap.size w w' := by
  have d1 : checkF [0, 0, 1, 1, 2] ⟨[1, 1], [0, 0, 1], [], 0, 0, 2⟩ [] = (⟨10, 32, 0, 2, 2⟩, 0) := by decide +kernel
  have d2 : survF [0, 1] ⟨6, 0, 0, 2, 2⟩ 2 = (false, 0) := by decide +kernel
  have R1 := sl_lit w 3 [0, 0, 1, 1, 2] 5 rfl
  have B1 := (Below.refl w.heap.size w).alloc (Nat.le_refl _) (.cells (i64s [0, 0, 1, 1, 2]).toArray 3)
  obtain ⟨u1, hu1⟩ : ∃ u, w.alloc (.cells (i64s [0, 0, 1, 1, 2]).toArray 3) = u := ⟨_, rfl⟩
  rw [hu1] at R1 B1
  have R2 := sl_lit u1 3 [1, 1] 2 rfl
  have B2 := B1.alloc B1.size (.cells (i64s [1, 1]).toArray 3)
  have C2 := (Below.refl u1.heap.size u1).alloc (Nat.le_refl _) (.cells (i64s [1, 1]).toArray 3)
  obtain ⟨u2, hu2⟩ : ∃ u, u1.alloc (.cells (i64s [1, 1]).toArray 3) = u := ⟨_, rfl⟩
  rw [hu2] at R2 B2 C2
  have R3 := sl_lit u2 3 [0, 0, 1] 3 rfl
  have B3 := B2.alloc B2.size (.cells (i64s [0, 0, 1]).toArray 3)
  have C3 := (Below.refl u2.heap.size u2).alloc (Nat.le_refl _) (.cells (i64s [0, 0, 1]).toArray 3)
  obtain ⟨u3, hu3⟩ : ∃ u, u2.alloc (.cells (i64s [0, 0, 1]).toArray 3) = u := ⟨_, rfl⟩
  rw [hu3] at R3 B3 C3
  have r1 := R1 u3 (C2.trans (C3.mono C2.size))
  have r2 := R2 u3 C3
  have r3 := R3 u3 (Below.refl _ _)
  have s1 : u1.heap.size = w.heap.size + 1 := by rw [← hu1]; simp
  have s2 : u2.heap.size = w.heap.size + 1 + 1 := by rw [← hu2]; simp [s1]
  rw [s1] at r2
  rw [s2] at r3
  have CK := check_any _ 5 5 [0, 0, 1, 1, 2] ⟨some ⟨w.heap.size + 1, 0, none⟩, 2, 2, some ⟨w.heap.size + 1 + 1, 0, none⟩, 3, 3, none, 0, 0⟩ ⟨[1, 1], [0, 0, 1], [], 0, 0, 2⟩ none 0 0 [] u3 (hT.on B3) r1 (by omega) ⟨r2, r3, RdV.nil _ _ _, by dsimp only; omega, by dsimp only; omega, by dsimp only; omega⟩ (RdV.nil _ _ _) (by omega)
  rw [d1] at CK
  unfold znV cfV at CK
  dsimp only at CK
  have CK := Lib.hid CK
  have CS := Lib.hid (fun (v : World) A hR => surv_any A 2 2 [0, 1] ⟨6, 0, 0, 2, 2⟩ 2 v v.heap.size hR (Nat.le_refl _) (by omega) ⟨by decide, by decide, by decide, by unfold In64; decide, by unfold In64; decide⟩)
  rw [d2] at CS
  unfold cfV at CS
  dsimp only at CS
  have HB3 := Lib.hid B3
  have hw : ((w.alloc (.cells #[.int .i64 0, .int .i64 0, .int .i64 1, .int .i64 1, .int .i64 2] 3)).alloc (.cells #[.int .i64 1, .int .i64 1] 3)).alloc (.cells #[.int .i64 0, .int .i64 0, .int .i64 1] 3) = u3 := by rw [← hu3, ← hu2, ← hu1]; rfl
  clear d1 d2 R1 R2 R3 B1 B2 B3 C2 C3 hu1 hu2 hu3 r1 r2 r3 s1 s2
  go_enter Tryd.func7, Tryd.ntmps7
  go_wp2_with (rw [hw])
  refine CK.out.mono ?_
  rintro e y1 ⟨rfl, hY1⟩
  have b1 := HB3.out.trans (hY1.mono HB3.out.size)
  have kc : Blk 30 (y1.alloc (.cells #[.int .u16 10, .int .u16 32, .int .u16 0, .int .i64 2, .int .i64 2] 30)) y1.heap.size [.int .u16 10, .int .u16 32, .int .u16 0, .int .i64 2, .int .i64 2] := heap_alloc_new y1 _
  have b2 := b1.alloc b1.size (.cells #[.int .u16 10, .int .u16 32, .int .u16 0, .int .i64 2, .int .i64 2] 30)
  clear CK hY1 b1 hw
  go_upto_region 2 with (fail)
  generalize (y1.alloc (.cells #[.int .u16 10, .int .u16 32, .int .u16 0, .int .i64 2, .int .i64 2] 30)) = y2 at *
  generalize y1.heap.size = gc at *
  have R1 := sl_lit y2 3 [0, 1] 2 rfl _ (Below.refl _ _)
  have hw : y2.alloc (.cells (i64s [0, 1]).toArray 3) = y2.alloc (.cells #[.int .i64 0, .int .i64 1] 3) := rfl
  rw [hw] at R1
  have kc2 := kc.alloc (.cells #[.int .i64 0, .int .i64 1] 3)
  have b3 := b2.alloc b2.size (.cells #[.int .i64 0, .int .i64 1] 3)
  have cS := Lib.hid (CS.out _ _ R1)
  have B4 := Lib.hid b3
  have K4 := Lib.hid kc2
  clear CS R1 kc2 b3 b2 kc hw
  go_wp2_with fail
  refine cS.out.mono ?_
  rintro e y3 ⟨rfl, hY3⟩
  obtain ⟨x0, x1, x2, x3, x4⟩ := blk5 (K4.out.below hY3 K4.out.lt)
  have b5 := Lib.hid (B4.out.trans (hY3.mono B4.out.size))
  go_wp2_with fail
  go_ret
  exact ⟨rfl, b5.out⟩
end Go.Proofs.YtfcljdpjjabhjaaDoor.law11
