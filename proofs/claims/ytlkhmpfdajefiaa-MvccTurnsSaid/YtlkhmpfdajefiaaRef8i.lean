/- What the document's Settle (antipoderef8) comes to. Conditions: few cells, few versions, in order. -/
import Derived.Test.YtlkhmpfdajefiaaRef8h
import Derived.Test.YtlkhmpfdajefiaaRef8f
import Derived.Test.YtlkhmpfdajefiaaJoin1
import Derived.Test.YtlkhmpfdajefiaaJoin0
namespace Go.Proofs.Ytlkhmpfdajefiaa.ref8
open Go Go.RowKit Go.Proofs.Ytlkhmpfdajefiaa.kit Go.Proofs.Ytlkhmpfdajefiaa.nums Go.Proofs.Ytlkhmpfdajefiaa.st Go.Proofs.Ytlkhmpfdajefiaa.mv
set_option linter.unusedVariables false

/-- One cell, settled. -/
def oneFree (b : TrL) (yes : Bool) (x : CellL) : Option CellL := keepF (freeF b yes x)
theorem settle_def (b : TrL) (yes : Bool) (cs : List CellL) : settleF b yes cs = cs.filterMap (oneFree b yes) := rfl
/-- A lock let go: the ten cells that are written. -/
def freed (w : World) (g : Nat) : World := ((((((((((w.setCell ⟨g, 2, none⟩ (.bool false)).setCell ⟨g, 3, none⟩ (.int .i64 0)).setCell ⟨g, 4, none⟩ (.int .i64 0)).setCell ⟨g, 5, none⟩ (.int .i64 0)).setCell ⟨g, 6, none⟩ (.int .i64 0)).setCell ⟨g, 7, none⟩ (.int .i64 0)).setCell ⟨g, 8, none⟩ (.int .i64 0)).setCell ⟨g, 9, none⟩ (.int .i64 0)).setCell ⟨g, 10, none⟩ (.bool false)).setCell ⟨g, 11, none⟩ (.string { data := #[] }))
section
variable {E : TypeId} {w w0 : World} {g B : Nat} {a0 a1 a2 a3 a4 a5 a6 a7 a8 a9 a10 a11 : Value}
theorem freed_blk (h : Blk E w g [a0, a1, a2, a3, a4, a5, a6, a7, a8, a9, a10, a11]) : Blk E (freed w g) g [a0, a1, .bool false, .int .i64 0, .int .i64 0, .int .i64 0, .int .i64 0, .int .i64 0, .int .i64 0, .int .i64 0, .bool false, .string { data := #[] }] :=
  (((((((((h.set_ 2 _).set_ 3 _).set_ 4 _).set_ 5 _).set_ 6 _).set_ 7 _).set_ 8 _).set_ 9 _).set_ 10 _).set_ 11 _
theorem freed_below (h : Below B w0 w) (hg : B ≤ g) : Below B w0 (freed w g) :=
  (((((((((h.setCell (p := ⟨g, 2, none⟩) hg _).setCell (p := ⟨g, 3, none⟩) hg _).setCell (p := ⟨g, 4, none⟩) hg _).setCell (p := ⟨g, 5, none⟩) hg _).setCell (p := ⟨g, 6, none⟩) hg _).setCell (p := ⟨g, 7, none⟩) hg _).setCell (p := ⟨g, 8, none⟩) hg _).setCell (p := ⟨g, 9, none⟩) hg _).setCell (p := ⟨g, 10, none⟩) hg _).setCell (p := ⟨g, 11, none⟩) hg _
theorem freed_heap (w : World) (g q : Nat) (hq : q ≠ g) : (freed w g).heap[q]? = w.heap[q]? := by
  have h := fun (w : World) (j : Nat) (v : Value) => Below.heap_setCell w ⟨g, j, none⟩ v q hq
  unfold freed
  rw [h, h, h, h, h, h, h, h, h, h]
/-- Versions lie in no block of a cell. -/
theorem not_cell {base : Nat} {sv : Value} {vs : List VerL} {w' : World} {l : List Value} (h : VsIn w base sv vs) (hk : Blk 45 w g l) (hs : ∀ q, q ≠ g → w'.heap[q]? = w.heap[q]?) : VsIn w' base sv vs :=
  h.keep fun q cur _ hq => hs q (fun e => by
    subst e
    unfold Blk at hk
    rw [hq] at hk
    simp only [Option.some.injEq, Obj.cells.injEq] at hk
    exact types_apart hk.2.1.symm)
end
set_option maxRecDepth 100000 in
set_option maxHeartbeats 4000000 in
theorem settle_any (A : Option Addr) (n c : Nat) (cs : List CellL) (b : TrL) (yes : Bool) (w : World) (B : Nat) (hR : RdC w B A n cs) (hB : B ≤ w.heap.size) (hf : Few cs) (hok : okC cs) :
    Calls Try.prog 30 #[.slice A n c, .agg #[.int .i64 b.node, .int .i64 b.life, .int .i64 b.seq, .int .i64 b.att], .bool yes] w (RetCs w (settleF b yes cs)) := by
  obtain rfl : cs.length = n := hR.1
  have CP := Lib.hid (fun (w1 : World) (h : Below w.heap.size w w1) => copy_any A cs.length c cs w1 B (hR.below (h.mono hB)) (by have := h.size; omega) hf)
  have hn2 := hf.1
  have HF := Lib.hid hf.2
  have HK := Lib.hid hok.2
  rw [settle_def]
  obtain ⟨b0, b1, b2, b3⟩ := b
  dsimp only
  clear hR hf hok
  have hB0 : Hid (Below w.heap.size w (w.alloc (.cells #[.int .i64 b0, .int .i64 b1, .int .i64 b2, .int .i64 b3] 28))) := (Below.refl _ _).alloc (Nat.le_refl _) _
  have k0 : Hid (Blk 28 (w.alloc (.cells #[.int .i64 b0, .int .i64 b1, .int .i64 b2, .int .i64 b3] 28)) w.heap.size [.int .i64 b0, .int .i64 b1, .int .i64 b2, .int .i64 b3]) := heap_alloc_new w _
  go_enter Try.func30, Try.ntmps30
  go_upto_region 2 with (fail)
  have C1 := Lib.hid (CP.out _ hB0.out)
  clear CP
  generalize (w.alloc (.cells #[.int .i64 b0, .int .i64 b1, .int .i64 b2, .int .i64 b3] 28)) = w1 at *
  go_wp2_with fail
  refine C1.out.mono ?_
  rintro e w2 ⟨A1, c1, rfl, hO1, hB2⟩
  have HL := Lib.hid (fun (j : Nat) (hj : j < cs.length) => hO1.at_ hj)
  have hs2 := hB2.size
  have hs1 : w.heap.size < w1.heap.size := k0.out.lt
  have K0 : Hid (∀ wq, Below w2.heap.size w2 wq → wq.cell? ⟨w.heap.size, 0, none⟩ = some (.int .i64 b0) ∧ wq.cell? ⟨w.heap.size, 1, none⟩ = some (.int .i64 b1) ∧ wq.cell? ⟨w.heap.size, 2, none⟩ = some (.int .i64 b2) ∧ wq.cell? ⟨w.heap.size, 3, none⟩ = some (.int .i64 b3)) := fun wq hq => blk4 ((k0.out.below hB2 hs1).below hq (by omega))
  clear hO1 C1
  go_wp2_with fail
  go_loopw [7, 9] (fun ov iv wr => ∃ (j m : Nat) (A' : Option Addr) (c' : Nat), j ≤ cs.length ∧ iv = .int .i64 j ∧ ov = .slice A' m c' ∧ Hid (((cs.take j).filterMap (oneFree ⟨b0, b1, b2, b3⟩ yes)).length = m) ∧ m ≤ j ∧ OwnCs2 wr w2.heap.size w1.heap.size (.slice A' m c') ((cs.take j).filterMap (oneFree ⟨b0, b1, b2, b3⟩ yes)) ∧ Below w2.heap.size w2 wr) (fun _ iv _ => cs.length - (intOf iv).toNat)
  case atStart => exact ⟨0, 0, none, 0, Nat.zero_le _, rfl, rfl, rfl, Nat.le_refl _, OwnCs2.nil _ _ _, Below.refl _ _⟩
  case round =>
    obtain ⟨j, m, A', c', hj, rfl, rfl, hm, hmj, hO, hBr⟩ := hrel
    have hsr := hBr.size
    by_cases hlt : j < cs.length
    · obtain ⟨bb, x, sv, rfl, hb1, hb2, hx, hV, hA⟩ := HL.out j hlt
      have hvx := HF.out x (List.mem_of_getElem? hx)
      have hpx := Lib.hid (HK.out x (List.mem_of_getElem? hx))
      have hAr := hA.below hb2 hBr
      have hVr := hV.below hBr
      have HST := Lib.hid (fm_step (f := (oneFree ⟨b0, b1, b2, b3⟩ yes)) hx)
      clear hA hx
      obtain ⟨xk, xv, xl, lk⟩ := x
      dsimp only at hvx hVr hV
      obtain ⟨As, cv, rfl, hc1, hc2, _⟩ := hV
      have hEq := fun w => eq_tr lk.by_ ⟨b0, b1, b2, b3⟩ w
      dsimp only at hEq
      rcases xl with _ | _
      · obtain ⟨a0, a1, a2, a3, a4, a5, a6, a7, a8, a9, a10, a11⟩ := at12 hAr
        have hyw : Hid (∀ q, q < wr.heap.size → (wr.alloc (.cells #[.string xk, .slice As xv.length cv, .bool false, .int .i64 lk.by_.node, .int .i64 lk.by_.life, .int .i64 lk.by_.seq, .int .i64 lk.by_.att, .int .i64 lk.home, .int .i64 lk.at_.wall, .int .i64 lk.at_.tie, .bool lk.drop, .string lk.data] 45)).heap[q]? = wr.heap[q]?) := fun q hq => heap_alloc_old wr _ hq
        have kx : Blk 45 (wr.alloc (.cells #[.string xk, .slice As xv.length cv, .bool false, .int .i64 lk.by_.node, .int .i64 lk.by_.life, .int .i64 lk.by_.seq, .int .i64 lk.by_.att, .int .i64 lk.home, .int .i64 lk.at_.wall, .int .i64 lk.at_.tie, .bool lk.drop, .string lk.data] 45)) wr.heap.size [.string xk, .slice As xv.length cv, .bool false, .int .i64 lk.by_.node, .int .i64 lk.by_.life, .int .i64 lk.by_.seq, .int .i64 lk.by_.att, .int .i64 lk.home, .int .i64 lk.at_.wall, .int .i64 lk.at_.tie, .bool lk.drop, .string lk.data] := heap_alloc_new wr _
        have hBx := hBr.alloc hsr (.cells #[.string xk, .slice As xv.length cv, .bool false, .int .i64 lk.by_.node, .int .i64 lk.by_.life, .int .i64 lk.by_.seq, .int .i64 lk.by_.att, .int .i64 lk.home, .int .i64 lk.at_.wall, .int .i64 lk.at_.tie, .bool lk.drop, .string lk.data] 45)
        have hVx := hVr.below ((Below.refl wr.heap.size wr).alloc (Nat.le_refl _) (.cells #[.string xk, .slice As xv.length cv, .bool false, .int .i64 lk.by_.node, .int .i64 lk.by_.life, .int .i64 lk.by_.seq, .int .i64 lk.by_.att, .int .i64 lk.home, .int .i64 lk.at_.wall, .int .i64 lk.at_.tie, .bool lk.drop, .string lk.data] 45))
        clear hAr hVr
        go_upto_region 7 with (fail)
        obtain ⟨g, hg⟩ : ∃ g, wr.heap.size = g := ⟨_, rfl⟩
        rw [hg] at kx hyw ⊢
        have hgw : w2.heap.size ≤ g := by omega
        generalize (wr.alloc (.cells #[.string xk, .slice As xv.length cv, .bool false, .int .i64 lk.by_.node, .int .i64 lk.by_.life, .int .i64 lk.by_.seq, .int .i64 lk.by_.att, .int .i64 lk.home, .int .i64 lk.at_.wall, .int .i64 lk.at_.tie, .bool lk.drop, .string lk.data] 45)) = y at *
        clear a0 a1 a2 a3 a4 a5 a6 a7 a8 a9 a10 a11
        have hyl := kx.lt
        have hO4' : OwnCs2 y w2.heap.size w1.heap.size (.slice A' m c') ((cs.take j).filterMap (oneFree ⟨b0, b1, b2, b3⟩ yes)) := hO.keep hs2 fun q _ hq => hyw.out q (by omega)
        obtain ⟨e0, e1, e2, e3, e4, e5, e6, e7, e8, e9, e10, e11⟩ := blk12 kx
        obtain ⟨t0, t1, t2, t3⟩ := K0.out _ hBx
        have hO4 := hO4'
        have hBz4 := hBx
        have hV4 := hVx
        have hsz := hBz4.size
        clear hO4' hBx hVx hyw hO
        clear hEq t0 t1 t2 t3
        by_cases hv0 : xv.length = 0
        · have HN : Hid ((cs.take (j + 1)).filterMap (oneFree ⟨b0, b1, b2, b3⟩ yes) = (cs.take j).filterMap (oneFree ⟨b0, b1, b2, b3⟩ yes)) := by
            rw [HST.out, show (oneFree ⟨b0, b1, b2, b3⟩ yes) _ = none from keep_no (by rw [free_other (by rfl)]; cases xv with | nil => rfl | cons _ _ => cases hv0)]
            simp [Hid]
          clear HST hpx
          go_wp2_with fail
          go_roundw
          case rel => exact ⟨j + 1, m, A', c', by omega, by go_num, rfl, by rw [HN.out]; exact hm, by omega, by rw [HN.out]; exact hO4, hBz4⟩
          case measure => simp [intOf]; omega
        · have hpos : 0 < xv.length := by omega
          have HN : Hid ((cs.take (j + 1)).filterMap (oneFree ⟨b0, b1, b2, b3⟩ yes) = (cs.take j).filterMap (oneFree ⟨b0, b1, b2, b3⟩ yes) ++ [⟨xk, xv, false, lk⟩]) := by
            rw [HST.out, show (oneFree ⟨b0, b1, b2, b3⟩ yes) _ = some ⟨xk, xv, false, lk⟩ from (show keepF (freeF _ _ _) = _ by rw [free_other (by rfl)]; exact keep_yes (by cases xv with | nil => cases hpos | cons _ _ => rfl))]
            exact Lib.hid rfl
          have hAn : At (y.alloc (.cells #[.string xk, .slice As xv.length cv, .bool false, .int .i64 lk.by_.node, .int .i64 lk.by_.life, .int .i64 lk.by_.seq, .int .i64 lk.by_.att, .int .i64 lk.home, .int .i64 lk.at_.wall, .int .i64 lk.at_.tie, .bool lk.drop, .string lk.data] 45)) y.heap.size 0 (cellC ⟨xk, xv, false, lk⟩ (.slice As xv.length cv)) := at_new y 45 _
          have ha1 := (Below.refl y.heap.size y).alloc (Nat.le_refl _) (.cells #[.string xk, .slice As xv.length cv, .bool false, .int .i64 lk.by_.node, .int .i64 lk.by_.life, .int .i64 lk.by_.seq, .int .i64 lk.by_.att, .int .i64 lk.home, .int .i64 lk.at_.wall, .int .i64 lk.at_.tie, .bool lk.drop, .string lk.data] 45)
          have hOn := hO4.below hs2 ha1
          have hVn := hV4.below ha1
          have hBn := hBz4.alloc hsz (.cells #[.string xk, .slice As xv.length cv, .bool false, .int .i64 lk.by_.node, .int .i64 lk.by_.life, .int .i64 lk.by_.seq, .int .i64 lk.by_.att, .int .i64 lk.home, .int .i64 lk.at_.wall, .int .i64 lk.at_.tie, .bool lk.drop, .string lk.data] 45)
          clear HST ha1 hpx
          go_wp2_with (at_builtin; with_reducible refine wpList_append_cell2 rfl (.tmp 58) (.tmp 60) rfl w2.heap.size w1.heap.size A' m c' _ hm.out rfl hOn (y.heap.size + 1) y.heap.size 0 1 ⟨xk, xv, false, lk⟩ (.slice As xv.length cv) rfl (Nat.lt_succ_self _) hAn hVn ?hba ?hbasea ?_)
          case hba => omega
          case hbasea => simp; omega
          intro A3 c3 w5 hO5 hB5 _
          have hB15 := hBn.trans hB5
          go_wp2_with fail
          go_roundw
          case rel => exact ⟨j + 1, m + 1, A3, c3, by omega, by go_num, rfl, by rw [HN.out, List.length_append, hm.out]; exact rfl, by omega, by rw [HN.out]; exact hO5, hB15⟩
          case measure => simp [intOf]; omega
      · obtain ⟨a0, a1, a2, a3, a4, a5, a6, a7, a8, a9, a10, a11⟩ := at12 hAr
        have hyw : Hid (∀ q, q < wr.heap.size → (wr.alloc (.cells #[.string xk, .slice As xv.length cv, .bool true, .int .i64 lk.by_.node, .int .i64 lk.by_.life, .int .i64 lk.by_.seq, .int .i64 lk.by_.att, .int .i64 lk.home, .int .i64 lk.at_.wall, .int .i64 lk.at_.tie, .bool lk.drop, .string lk.data] 45)).heap[q]? = wr.heap[q]?) := fun q hq => heap_alloc_old wr _ hq
        have kx : Blk 45 (wr.alloc (.cells #[.string xk, .slice As xv.length cv, .bool true, .int .i64 lk.by_.node, .int .i64 lk.by_.life, .int .i64 lk.by_.seq, .int .i64 lk.by_.att, .int .i64 lk.home, .int .i64 lk.at_.wall, .int .i64 lk.at_.tie, .bool lk.drop, .string lk.data] 45)) wr.heap.size [.string xk, .slice As xv.length cv, .bool true, .int .i64 lk.by_.node, .int .i64 lk.by_.life, .int .i64 lk.by_.seq, .int .i64 lk.by_.att, .int .i64 lk.home, .int .i64 lk.at_.wall, .int .i64 lk.at_.tie, .bool lk.drop, .string lk.data] := heap_alloc_new wr _
        have hBx := hBr.alloc hsr (.cells #[.string xk, .slice As xv.length cv, .bool true, .int .i64 lk.by_.node, .int .i64 lk.by_.life, .int .i64 lk.by_.seq, .int .i64 lk.by_.att, .int .i64 lk.home, .int .i64 lk.at_.wall, .int .i64 lk.at_.tie, .bool lk.drop, .string lk.data] 45)
        have hVx := hVr.below ((Below.refl wr.heap.size wr).alloc (Nat.le_refl _) (.cells #[.string xk, .slice As xv.length cv, .bool true, .int .i64 lk.by_.node, .int .i64 lk.by_.life, .int .i64 lk.by_.seq, .int .i64 lk.by_.att, .int .i64 lk.home, .int .i64 lk.at_.wall, .int .i64 lk.at_.tie, .bool lk.drop, .string lk.data] 45))
        clear hAr hVr
        go_upto_region 7 with (fail)
        obtain ⟨g, hg⟩ : ∃ g, wr.heap.size = g := ⟨_, rfl⟩
        rw [hg] at kx hyw ⊢
        have hgw : w2.heap.size ≤ g := by omega
        generalize (wr.alloc (.cells #[.string xk, .slice As xv.length cv, .bool true, .int .i64 lk.by_.node, .int .i64 lk.by_.life, .int .i64 lk.by_.seq, .int .i64 lk.by_.att, .int .i64 lk.home, .int .i64 lk.at_.wall, .int .i64 lk.at_.tie, .bool lk.drop, .string lk.data] 45)) = y at *
        clear a0 a1 a2 a3 a4 a5 a6 a7 a8 a9 a10 a11
        have hyl := kx.lt
        have hO4' : OwnCs2 y w2.heap.size w1.heap.size (.slice A' m c') ((cs.take j).filterMap (oneFree ⟨b0, b1, b2, b3⟩ yes)) := hO.keep hs2 fun q _ hq => hyw.out q (by omega)
        obtain ⟨e0, e1, e2, e3, e4, e5, e6, e7, e8, e9, e10, e11⟩ := blk12 kx
        obtain ⟨t0, t1, t2, t3⟩ := K0.out _ hBx
        by_cases hby : lk.by_ = ⟨b0, b1, b2, b3⟩
        · simp only [decide_eq_true hby] at hEq
          rcases yes with _ | _
          · have K4 : Blk 45 (((((((((((y.setCell ⟨g, 2, none⟩ (.bool false)).setCell ⟨g, 3, none⟩ (.int .i64 0)).setCell ⟨g, 4, none⟩ (.int .i64 0)).setCell ⟨g, 5, none⟩ (.int .i64 0)).setCell ⟨g, 6, none⟩ (.int .i64 0)).setCell ⟨g, 7, none⟩ (.int .i64 0)).setCell ⟨g, 8, none⟩ (.int .i64 0)).setCell ⟨g, 9, none⟩ (.int .i64 0)).setCell ⟨g, 10, none⟩ (.bool false)).setCell ⟨g, 11, none⟩ (.string { data := #[] }))) g [.string xk, .slice As xv.length cv, .bool false, .int .i64 0, .int .i64 0, .int .i64 0, .int .i64 0, .int .i64 0, .int .i64 0, .int .i64 0, .bool false, .string { data := #[] }] := freed_blk kx
            have hBz4 : Below w2.heap.size w2 (((((((((((y.setCell ⟨g, 2, none⟩ (.bool false)).setCell ⟨g, 3, none⟩ (.int .i64 0)).setCell ⟨g, 4, none⟩ (.int .i64 0)).setCell ⟨g, 5, none⟩ (.int .i64 0)).setCell ⟨g, 6, none⟩ (.int .i64 0)).setCell ⟨g, 7, none⟩ (.int .i64 0)).setCell ⟨g, 8, none⟩ (.int .i64 0)).setCell ⟨g, 9, none⟩ (.int .i64 0)).setCell ⟨g, 10, none⟩ (.bool false)).setCell ⟨g, 11, none⟩ (.string { data := #[] }))) := freed_below hBx hgw
            have hO4 : OwnCs2 (((((((((((y.setCell ⟨g, 2, none⟩ (.bool false)).setCell ⟨g, 3, none⟩ (.int .i64 0)).setCell ⟨g, 4, none⟩ (.int .i64 0)).setCell ⟨g, 5, none⟩ (.int .i64 0)).setCell ⟨g, 6, none⟩ (.int .i64 0)).setCell ⟨g, 7, none⟩ (.int .i64 0)).setCell ⟨g, 8, none⟩ (.int .i64 0)).setCell ⟨g, 9, none⟩ (.int .i64 0)).setCell ⟨g, 10, none⟩ (.bool false)).setCell ⟨g, 11, none⟩ (.string { data := #[] }))) w2.heap.size w1.heap.size (.slice A' m c') ((cs.take j).filterMap (oneFree ⟨b0, b1, b2, b3⟩ false)) := hO.keep hs2 fun q _ hq => (freed_heap y g q (by omega)).trans (hyw.out q (by omega))
            have hV4 : VsIn (((((((((((y.setCell ⟨g, 2, none⟩ (.bool false)).setCell ⟨g, 3, none⟩ (.int .i64 0)).setCell ⟨g, 4, none⟩ (.int .i64 0)).setCell ⟨g, 5, none⟩ (.int .i64 0)).setCell ⟨g, 6, none⟩ (.int .i64 0)).setCell ⟨g, 7, none⟩ (.int .i64 0)).setCell ⟨g, 8, none⟩ (.int .i64 0)).setCell ⟨g, 9, none⟩ (.int .i64 0)).setCell ⟨g, 10, none⟩ (.bool false)).setCell ⟨g, 11, none⟩ (.string { data := #[] }))) w1.heap.size (.slice As xv.length cv) xv := not_cell hVx kx (fun q hq => freed_heap y g q hq)
            have df := fun i => kx.frozen i
            go_upto_region 11 with (fail)
            clear e0 e1 e2 e3 e4 e5 e6 e7 e8 e9 e10 e11 t0 t1 t2 t3 df hVx kx hBx hO hyw hEq
            generalize (((((((((((y.setCell ⟨g, 2, none⟩ (.bool false)).setCell ⟨g, 3, none⟩ (.int .i64 0)).setCell ⟨g, 4, none⟩ (.int .i64 0)).setCell ⟨g, 5, none⟩ (.int .i64 0)).setCell ⟨g, 6, none⟩ (.int .i64 0)).setCell ⟨g, 7, none⟩ (.int .i64 0)).setCell ⟨g, 8, none⟩ (.int .i64 0)).setCell ⟨g, 9, none⟩ (.int .i64 0)).setCell ⟨g, 10, none⟩ (.bool false)).setCell ⟨g, 11, none⟩ (.string { data := #[] }))) = z at *
            have hsz := hBz4.size
            obtain ⟨f0, f1, f2, f3, f4, f5, f6, f7, f8, f9, f10, f11⟩ := blk12 K4
            by_cases hv0 : xv.length = 0
            · have HN : Hid ((cs.take (j + 1)).filterMap (oneFree ⟨b0, b1, b2, b3⟩ false) = (cs.take j).filterMap (oneFree ⟨b0, b1, b2, b3⟩ false)) := by
                rw [HST.out, show (oneFree ⟨b0, b1, b2, b3⟩ false) _ = none from (show keepF (freeF _ _ _) = _ by rw [free_mine rfl hby]; exact keep_no (by cases xv with | nil => rfl | cons _ _ => cases hv0))]
                simp [Hid]
              clear HST hpx
              go_wp2_with fail
              go_roundw
              case rel => exact ⟨j + 1, m, A', c', by omega, by go_num, rfl, by rw [HN.out]; exact hm, by omega, by rw [HN.out]; exact hO4, hBz4⟩
              case measure => simp [intOf]; omega
            · have hpos : 0 < xv.length := by omega
              have HN : Hid ((cs.take (j + 1)).filterMap (oneFree ⟨b0, b1, b2, b3⟩ false) = (cs.take j).filterMap (oneFree ⟨b0, b1, b2, b3⟩ false) ++ [⟨xk, xv, false, zeroL⟩]) := by
                rw [HST.out, show (oneFree ⟨b0, b1, b2, b3⟩ false) _ = some ⟨xk, xv, false, zeroL⟩ from (show keepF (freeF _ _ _) = _ by rw [free_mine rfl hby]; exact keep_yes (by cases xv with | nil => cases hpos | cons _ _ => rfl))]
                exact Lib.hid rfl
              have hAn : At (z.alloc (.cells #[.string xk, .slice As xv.length cv, .bool false, .int .i64 0, .int .i64 0, .int .i64 0, .int .i64 0, .int .i64 0, .int .i64 0, .int .i64 0, .bool false, .string { data := #[] }] 45)) z.heap.size 0 (cellC ⟨xk, xv, false, zeroL⟩ (.slice As xv.length cv)) := at_new z 45 _
              have ha1 := (Below.refl z.heap.size z).alloc (Nat.le_refl _) (.cells #[.string xk, .slice As xv.length cv, .bool false, .int .i64 0, .int .i64 0, .int .i64 0, .int .i64 0, .int .i64 0, .int .i64 0, .int .i64 0, .bool false, .string { data := #[] }] 45)
              have hOn := hO4.below hs2 ha1
              have hVn := hV4.below ha1
              have hBn := hBz4.alloc hsz (.cells #[.string xk, .slice As xv.length cv, .bool false, .int .i64 0, .int .i64 0, .int .i64 0, .int .i64 0, .int .i64 0, .int .i64 0, .int .i64 0, .bool false, .string { data := #[] }] 45)
              clear HST ha1 hpx
              go_wp2_with (at_builtin; with_reducible refine wpList_append_cell2 rfl (.tmp 58) (.tmp 60) rfl w2.heap.size w1.heap.size A' m c' _ hm.out rfl hOn (z.heap.size + 1) z.heap.size 0 1 ⟨xk, xv, false, zeroL⟩ (.slice As xv.length cv) rfl (Nat.lt_succ_self _) hAn hVn ?hbb ?hbaseb ?_)
              case hbb => omega
              case hbaseb => simp; omega
              intro A3 c3 w5 hO5 hB5 _
              have hB15 := hBn.trans hB5
              go_wp2_with fail
              go_roundw
              case rel => exact ⟨j + 1, m + 1, A3, c3, by omega, by go_num, rfl, by rw [HN.out, List.length_append, hm.out]; exact rfl, by omega, by rw [HN.out]; exact hO5, hB15⟩
              case measure => simp [intOf]; omega
          · obtain ⟨As', cv', he', hw1, hw2, hRv⟩ := hVx.rd
            simp only [Value.slice.injEq] at he'
            obtain ⟨rfl, _, rfl⟩ := he'
            have WI := Lib.hid (with_any As xv.length cv xv ⟨lk.at_, lk.drop, lk.data⟩ y y.heap.size hRv (Nat.le_refl _) hvx hpx.out.1.1)
            unfold verC at WI
            dsimp only at WI
            clear hRv
            go_wp2_with fail
            refine WI.out.mono ?_
            rintro e wv ⟨Av, cw, rfl, hOv, hBv⟩
            have kv := kx.below hBv hyl
            have hne := with_ne ⟨lk.at_, lk.drop, lk.data⟩ xv
            have HPOS : Hid ((withF ⟨lk.at_, lk.drop, lk.data⟩ xv).isEmpty = false) := by
              cases hW : withF ⟨lk.at_, lk.drop, lk.data⟩ xv with
              | nil => exact absurd hW hne
              | cons _ _ => exact Lib.hid rfl
            have HLP : 0 < (withF ⟨lk.at_, lk.drop, lk.data⟩ xv).length := List.length_pos_iff.2 hne
            generalize hWV : withF ⟨lk.at_, lk.drop, lk.data⟩ xv = wvs at *
            have K4 : Blk 45 ((((((((((((wv.setCell ⟨g, 1, none⟩ (.slice Av wvs.length cw)).setCell ⟨g, 2, none⟩ (.bool false)).setCell ⟨g, 3, none⟩ (.int .i64 0)).setCell ⟨g, 4, none⟩ (.int .i64 0)).setCell ⟨g, 5, none⟩ (.int .i64 0)).setCell ⟨g, 6, none⟩ (.int .i64 0)).setCell ⟨g, 7, none⟩ (.int .i64 0)).setCell ⟨g, 8, none⟩ (.int .i64 0)).setCell ⟨g, 9, none⟩ (.int .i64 0)).setCell ⟨g, 10, none⟩ (.bool false)).setCell ⟨g, 11, none⟩ (.string { data := #[] }))) g [.string xk, .slice Av wvs.length cw, .bool false, .int .i64 0, .int .i64 0, .int .i64 0, .int .i64 0, .int .i64 0, .int .i64 0, .int .i64 0, .bool false, .string { data := #[] }] := freed_blk (kv.set_ 1 _)
            have hBz4 : Below w2.heap.size w2 ((((((((((((wv.setCell ⟨g, 1, none⟩ (.slice Av wvs.length cw)).setCell ⟨g, 2, none⟩ (.bool false)).setCell ⟨g, 3, none⟩ (.int .i64 0)).setCell ⟨g, 4, none⟩ (.int .i64 0)).setCell ⟨g, 5, none⟩ (.int .i64 0)).setCell ⟨g, 6, none⟩ (.int .i64 0)).setCell ⟨g, 7, none⟩ (.int .i64 0)).setCell ⟨g, 8, none⟩ (.int .i64 0)).setCell ⟨g, 9, none⟩ (.int .i64 0)).setCell ⟨g, 10, none⟩ (.bool false)).setCell ⟨g, 11, none⟩ (.string { data := #[] }))) := freed_below ((hBx.trans (hBv.mono hBx.size)).setCell (p := ⟨g, 1, none⟩) hgw _) hgw
            have hO4 : OwnCs2 ((((((((((((wv.setCell ⟨g, 1, none⟩ (.slice Av wvs.length cw)).setCell ⟨g, 2, none⟩ (.bool false)).setCell ⟨g, 3, none⟩ (.int .i64 0)).setCell ⟨g, 4, none⟩ (.int .i64 0)).setCell ⟨g, 5, none⟩ (.int .i64 0)).setCell ⟨g, 6, none⟩ (.int .i64 0)).setCell ⟨g, 7, none⟩ (.int .i64 0)).setCell ⟨g, 8, none⟩ (.int .i64 0)).setCell ⟨g, 9, none⟩ (.int .i64 0)).setCell ⟨g, 10, none⟩ (.bool false)).setCell ⟨g, 11, none⟩ (.string { data := #[] }))) w2.heap.size w1.heap.size (.slice A' m c') ((cs.take j).filterMap (oneFree ⟨b0, b1, b2, b3⟩ true)) := hO.keep hs2 fun q _ hq => (freed_heap _ g q (by omega)).trans ((Below.heap_setCell wv ⟨g, 1, none⟩ _ q (show q ≠ g by omega)).trans ((hBv.block q (by omega)).trans (hyw.out q (by omega))))
            have hV4 : VsIn ((((((((((((wv.setCell ⟨g, 1, none⟩ (.slice Av wvs.length cw)).setCell ⟨g, 2, none⟩ (.bool false)).setCell ⟨g, 3, none⟩ (.int .i64 0)).setCell ⟨g, 4, none⟩ (.int .i64 0)).setCell ⟨g, 5, none⟩ (.int .i64 0)).setCell ⟨g, 6, none⟩ (.int .i64 0)).setCell ⟨g, 7, none⟩ (.int .i64 0)).setCell ⟨g, 8, none⟩ (.int .i64 0)).setCell ⟨g, 9, none⟩ (.int .i64 0)).setCell ⟨g, 10, none⟩ (.bool false)).setCell ⟨g, 11, none⟩ (.string { data := #[] }))) w1.heap.size (.slice Av wvs.length cw) wvs := not_cell (hOv.vsIn.more (by have := hBx.size; omega)) kv (fun q hq => (freed_heap _ g q hq).trans (Below.heap_setCell wv ⟨g, 1, none⟩ _ q hq))
            have df := fun i => kv.frozen i
            clear e0 e1 e2 e3 e4 e5 e6 e7 e8 e9 e10 e11
            obtain ⟨e0, e1, e2, e3, e4, e5, e6, e7, e8, e9, e10, e11⟩ := blk12 kv
            go_upto_region 11 with (fail)
            clear e0 e1 e2 e3 e4 e5 e6 e7 e8 e9 e10 e11 t0 t1 t2 t3 df hVx kx kv hBx hO hyw hEq hOv hBv hne
            generalize ((((((((((((wv.setCell ⟨g, 1, none⟩ (.slice Av wvs.length cw)).setCell ⟨g, 2, none⟩ (.bool false)).setCell ⟨g, 3, none⟩ (.int .i64 0)).setCell ⟨g, 4, none⟩ (.int .i64 0)).setCell ⟨g, 5, none⟩ (.int .i64 0)).setCell ⟨g, 6, none⟩ (.int .i64 0)).setCell ⟨g, 7, none⟩ (.int .i64 0)).setCell ⟨g, 8, none⟩ (.int .i64 0)).setCell ⟨g, 9, none⟩ (.int .i64 0)).setCell ⟨g, 10, none⟩ (.bool false)).setCell ⟨g, 11, none⟩ (.string { data := #[] }))) = z at *
            have hsz := hBz4.size
            obtain ⟨f0, f1, f2, f3, f4, f5, f6, f7, f8, f9, f10, f11⟩ := blk12 K4
            have HN : Hid ((cs.take (j + 1)).filterMap (oneFree ⟨b0, b1, b2, b3⟩ true) = (cs.take j).filterMap (oneFree ⟨b0, b1, b2, b3⟩ true) ++ [⟨xk, wvs, false, zeroL⟩]) := by
              rw [HST.out, show (oneFree ⟨b0, b1, b2, b3⟩ true) _ = some ⟨xk, wvs, false, zeroL⟩ from (show keepF (freeF _ _ _) = _ by rw [free_mine rfl hby]; simp only [if_true]; rw [hWV]; exact keep_yes (by rw [HPOS.out]; rfl))]
              exact Lib.hid rfl
            have hAn : At (z.alloc (.cells #[.string xk, .slice Av wvs.length cw, .bool false, .int .i64 0, .int .i64 0, .int .i64 0, .int .i64 0, .int .i64 0, .int .i64 0, .int .i64 0, .bool false, .string { data := #[] }] 45)) z.heap.size 0 (cellC ⟨xk, wvs, false, zeroL⟩ (.slice Av wvs.length cw)) := at_new z 45 _
            have ha1 := (Below.refl z.heap.size z).alloc (Nat.le_refl _) (.cells #[.string xk, .slice Av wvs.length cw, .bool false, .int .i64 0, .int .i64 0, .int .i64 0, .int .i64 0, .int .i64 0, .int .i64 0, .int .i64 0, .bool false, .string { data := #[] }] 45)
            have hOn := hO4.below hs2 ha1
            have hVn := hV4.below ha1
            have hBn := hBz4.alloc hsz (.cells #[.string xk, .slice Av wvs.length cw, .bool false, .int .i64 0, .int .i64 0, .int .i64 0, .int .i64 0, .int .i64 0, .int .i64 0, .int .i64 0, .bool false, .string { data := #[] }] 45)
            clear HST ha1 hpx
            go_wp2_with (at_builtin; with_reducible refine wpList_append_cell2 rfl (.tmp 58) (.tmp 60) rfl w2.heap.size w1.heap.size A' m c' _ hm.out rfl hOn (z.heap.size + 1) z.heap.size 0 1 ⟨xk, wvs, false, zeroL⟩ (.slice Av wvs.length cw) rfl (Nat.lt_succ_self _) hAn hVn ?hbc ?hbasec ?_)
            case hbc => omega
            case hbasec => simp; omega
            intro A3 c3 w5 hO5 hB5 _
            have hB15 := hBn.trans hB5
            go_wp2_with fail
            go_roundw
            case rel => exact ⟨j + 1, m + 1, A3, c3, by omega, by go_num, rfl, by rw [HN.out, List.length_append, hm.out]; exact rfl, by omega, by rw [HN.out]; exact hO5, hB15⟩
            case measure => simp [intOf]; omega
        · simp only [decide_eq_false hby] at hEq
          have hO4 := hO4'
          have hBz4 := hBx
          have hV4 := hVx
          have hsz := hBz4.size
          clear hO4' hBx hVx hyw hO
          have HN : Hid ((cs.take (j + 1)).filterMap (oneFree ⟨b0, b1, b2, b3⟩ yes) = (cs.take j).filterMap (oneFree ⟨b0, b1, b2, b3⟩ yes) ++ [⟨xk, xv, true, lk⟩]) := by
            rw [HST.out, show (oneFree ⟨b0, b1, b2, b3⟩ yes) _ = some ⟨xk, xv, true, lk⟩ from (show keepF (freeF _ _ _) = _ by rw [free_other (by simp [hby])]; exact keep_yes rfl)]
            exact Lib.hid rfl
          have hAn : At (y.alloc (.cells #[.string xk, .slice As xv.length cv, .bool true, .int .i64 lk.by_.node, .int .i64 lk.by_.life, .int .i64 lk.by_.seq, .int .i64 lk.by_.att, .int .i64 lk.home, .int .i64 lk.at_.wall, .int .i64 lk.at_.tie, .bool lk.drop, .string lk.data] 45)) y.heap.size 0 (cellC ⟨xk, xv, true, lk⟩ (.slice As xv.length cv)) := at_new y 45 _
          have ha1 := (Below.refl y.heap.size y).alloc (Nat.le_refl _) (.cells #[.string xk, .slice As xv.length cv, .bool true, .int .i64 lk.by_.node, .int .i64 lk.by_.life, .int .i64 lk.by_.seq, .int .i64 lk.by_.att, .int .i64 lk.home, .int .i64 lk.at_.wall, .int .i64 lk.at_.tie, .bool lk.drop, .string lk.data] 45)
          have hOn := hO4.below hs2 ha1
          have hVn := hV4.below ha1
          have hBn := hBz4.alloc hsz (.cells #[.string xk, .slice As xv.length cv, .bool true, .int .i64 lk.by_.node, .int .i64 lk.by_.life, .int .i64 lk.by_.seq, .int .i64 lk.by_.att, .int .i64 lk.home, .int .i64 lk.at_.wall, .int .i64 lk.at_.tie, .bool lk.drop, .string lk.data] 45)
          clear HST ha1 hpx hby
          go_wp2_with (at_builtin; with_reducible refine wpList_append_cell2 rfl (.tmp 58) (.tmp 60) rfl w2.heap.size w1.heap.size A' m c' _ hm.out rfl hOn (y.heap.size + 1) y.heap.size 0 1 ⟨xk, xv, true, lk⟩ (.slice As xv.length cv) rfl (Nat.lt_succ_self _) hAn hVn ?hbd ?hbased ?_)
          case hbd => omega
          case hbased => simp; omega
          intro A3 c3 w5 hO5 hB5 _
          have hB15 := hBn.trans hB5
          go_wp2_with fail
          go_roundw
          case rel => exact ⟨j + 1, m + 1, A3, c3, by omega, by go_num, rfl, by rw [HN.out, List.length_append, hm.out]; exact rfl, by omega, by rw [HN.out]; exact hO5, hB15⟩
          case measure => simp [intOf]; omega
    · obtain rfl : j = cs.length := by omega
      rw [List.take_length] at hO hm
      have hOf := (hO.one hs2).more (base' := w.heap.size) (by omega)
      have hBf := hB0.out.trans ((hB2.trans (hBr.mono hs2)).mono hB0.out.size)
      go_wp2_with fail
      go_ret
      unfold RetCs
      rw [hm.out]
      exact ⟨A', c', rfl, hOf, hBf⟩
end Go.Proofs.Ytlkhmpfdajefiaa.ref8
