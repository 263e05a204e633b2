/- Which value stands at a beginning, written either way (ValueReads): true of every input. -/
import Derived.Test.YtodpaeaeigjmdaaDoorValLaw
import Derived.Test.YtodpaeaeigjmdaaDoorRef7v
import Derived.Test.YtodpaeaeigjmdaaDoorVaEq
import Derived.Test.YtodpaeaeigjmdaaDoorTwin
namespace Go.Proofs.YtodpaeaeigjmdaaDoor.law7
open Go Go.RowKit Go.Proofs.YtodpaeaeigjmdaaDoor.kit Go.Proofs.YtodpaeaeigjmdaaDoor.nums Go.Proofs.YtodpaeaeigjmdaaDoor.st Go.Proofs.YtodpaeaeigjmdaaDoor.va Go.Proofs.YtodpaeaeigjmdaaDoor.ref7 Go.Proofs.YtodpaeaeigjmdaaDoor.bytes Go.Proofs.YtodpaeaeigjmdaaDoor.libw
set_option linter.unusedVariables false

set_option maxHeartbeats 2000000 in
theorem reads_walk (A : Option Addr) (n c : Nat) (l : List Int) (w : World) (hR : Rd w w.heap.size A n l) (hY : Byt l) (hnc : n ≤ c) (hcm : c ≤ maxLen) (hw : LibW w) :
    Calls Tryd.prog 4 #[.slice A n c] w fun e w' => e = .returned (.bool true) ∧ Below w.heap.size w w' := by
  have hx1 := hcm
  unfold maxLen at hx1
  go_enter Tryd.func4, Tryd.ntmps4
  go_wp2_with fail
  refine (begun_any _ hw).mono ?_
  clear hw
  rintro e w1 ⟨rfl, hB1⟩
  by_cases h1 : 1024 < n
  · go_wp2_with fail
    go_ret
    exact ⟨rfl, hB1⟩
  have T := Lib.hid (twin_any A n c l w1 (hR.on hB1 hB1.size) (by omega))
  have HR1 := Lib.hid (hR.on hB1 hB1.size)
  go_wp2_with fail
  refine T.out.mono ?_
  rintro e w2 ⟨rfl, hT, hB2⟩
  have hR2 := HR1.out.on hB2 hB2.size
  have hl := hR.len
  have hRt := hT.rd hl hT.lt
  have F1 := Lib.hid (fun w' (h : Below w2.heap.size w2 w') => val.takeKey_any (some ⟨w1.heap.size, 0, none⟩) n (n + 3) l w' w2.heap.size (hRt.below h) h.size hY (by omega) (by omega))
  have F2 := Lib.hid (fun w' (h : Below w2.heap.size w2 w') => ref7.takeKey_any A n c l w' w2.heap.size (hR2.below h) h.size hY (by omega))
  have F3 := Lib.hid (fun w' (h : Below w2.heap.size w2 w') => val.take_any (some ⟨w1.heap.size, 0, none⟩) n (n + 3) l w' w2.heap.size (hRt.below h) h.size hY (by omega) (by omega))
  have F4 := Lib.hid (fun w' (h : Below w2.heap.size w2 w') => ref7.take_any A n c l w' w2.heap.size (hR2.below h) h.size hY (by omega) hnc)
  have F5 := Lib.hid (fun w' (h : Below w2.heap.size w2 w') => kept_any w1.heap.size A n c l w' w2.heap.size (hT.below h hT.lt) (hR2.below h) (by omega))
  have HB2 := Lib.hid (hB1.trans (hB2.mono hB1.size))
  obtain ⟨⟨⟨vk, vn, vs⟩, vl, ve⟩, hf⟩ : ∃ x, tkF l = x := ⟨_, rfl⟩
  obtain ⟨⟨⟨pk, pn, ps⟩, pl, pe⟩, hg⟩ : ∃ x, tpF l = x := ⟨_, rfl⟩
  rw [hf] at F1 F2
  rw [hg] at F3 F4
  have E1 := Lib.hid (fun w => eq_self vk vn (strOfNums vs) w)
  have E2 := Lib.hid (fun w => eq_self pk pn (strOfNums ps) w)
  unfold RetV vaV at *
  dsimp only at F1 F2 F3 F4
  generalize strOfNums vs = Tv at *
  generalize strOfNums ps = Tp at *
  clear T HR1 hR2 hl hRt hT hB1 hB2 hR hf hg
  have hB : Below w2.heap.size w2 w2 := Below.refl _ _
  go_wp2_with fail
  refine (F1.out _ hB).mono ?_
  rintro e y0 ⟨rfl, hBy⟩
  have hB := hB.trans (hBy.mono hB.size)
  have k0 : Blk 24 (y0.alloc (.cells #[.int .i64 vk, .int .i64 vn, .string Tv] 24)) y0.heap.size [.int .i64 vk, .int .i64 vn, .string Tv] := heap_alloc_new y0 _
  have hB := hB.alloc hB.size (.cells #[.int .i64 vk, .int .i64 vn, .string Tv] 24)
  clear hBy
  go_upto_region 7 with (fail)
  generalize (y0.alloc (.cells #[.int .i64 vk, .int .i64 vn, .string Tv] 24)) = z0 at *
  obtain ⟨g0, hg0⟩ : ∃ g, y0.heap.size = g := ⟨_, rfl⟩
  rw [hg0] at k0 ⊢
  clear hg0
  go_wp2_with fail
  refine (F2.out _ hB).mono ?_
  rintro e y1 ⟨rfl, hBy⟩
  have hB := hB.trans (hBy.mono hB.size)
  have k0 := k0.below hBy k0.lt
  have k1 : Blk 24 (y1.alloc (.cells #[.int .i64 vk, .int .i64 vn, .string Tv] 24)) y1.heap.size [.int .i64 vk, .int .i64 vn, .string Tv] := heap_alloc_new y1 _
  have k0 := k0.alloc (.cells #[.int .i64 vk, .int .i64 vn, .string Tv] 24)
  have hB := hB.alloc hB.size (.cells #[.int .i64 vk, .int .i64 vn, .string Tv] 24)
  clear hBy
  go_upto_region 8 with (fail)
  generalize (y1.alloc (.cells #[.int .i64 vk, .int .i64 vn, .string Tv] 24)) = z1 at *
  obtain ⟨g1, hg1⟩ : ∃ g, y1.heap.size = g := ⟨_, rfl⟩
  rw [hg1] at k1 ⊢
  clear hg1
  go_wp2_with fail
  refine (F3.out _ hB).mono ?_
  rintro e y2 ⟨rfl, hBy⟩
  have hB := hB.trans (hBy.mono hB.size)
  have k0 := k0.below hBy k0.lt
  have k1 := k1.below hBy k1.lt
  have k2 : Blk 24 (y2.alloc (.cells #[.int .i64 pk, .int .i64 pn, .string Tp] 24)) y2.heap.size [.int .i64 pk, .int .i64 pn, .string Tp] := heap_alloc_new y2 _
  have k0 := k0.alloc (.cells #[.int .i64 pk, .int .i64 pn, .string Tp] 24)
  have k1 := k1.alloc (.cells #[.int .i64 pk, .int .i64 pn, .string Tp] 24)
  have hB := hB.alloc hB.size (.cells #[.int .i64 pk, .int .i64 pn, .string Tp] 24)
  clear hBy
  go_upto_region 9 with (fail)
  generalize (y2.alloc (.cells #[.int .i64 pk, .int .i64 pn, .string Tp] 24)) = z2 at *
  obtain ⟨g2, hg2⟩ : ∃ g, y2.heap.size = g := ⟨_, rfl⟩
  rw [hg2] at k2 ⊢
  clear hg2
  go_wp2_with fail
  refine (F4.out _ hB).mono ?_
  rintro e y3 ⟨rfl, hBy⟩
  have hB := hB.trans (hBy.mono hB.size)
  have k0 := k0.below hBy k0.lt
  have k1 := k1.below hBy k1.lt
  have k2 := k2.below hBy k2.lt
  have k3 : Blk 24 (y3.alloc (.cells #[.int .i64 pk, .int .i64 pn, .string Tp] 24)) y3.heap.size [.int .i64 pk, .int .i64 pn, .string Tp] := heap_alloc_new y3 _
  have k0 := k0.alloc (.cells #[.int .i64 pk, .int .i64 pn, .string Tp] 24)
  have k1 := k1.alloc (.cells #[.int .i64 pk, .int .i64 pn, .string Tp] 24)
  have k2 := k2.alloc (.cells #[.int .i64 pk, .int .i64 pn, .string Tp] 24)
  have hB := hB.alloc hB.size (.cells #[.int .i64 pk, .int .i64 pn, .string Tp] 24)
  clear hBy
  go_upto_region 10 with (fail)
  generalize (y3.alloc (.cells #[.int .i64 pk, .int .i64 pn, .string Tp] 24)) = z3 at *
  obtain ⟨g3, hg3⟩ : ∃ g, y3.heap.size = g := ⟨_, rfl⟩
  rw [hg3] at k3 ⊢
  clear hg3
  have e0 := E1.out
  have e1 := E2.out
  obtain ⟨a0, b0, c0⟩ := box_cells k0 (Below.refl _ _)
  obtain ⟨a1, b1, c1⟩ := box_cells k1 (Below.refl _ _)
  obtain ⟨a2, b2, c2⟩ := box_cells k2 (Below.refl _ _)
  obtain ⟨a3, b3, c3⟩ := box_cells k3 (Below.refl _ _)
  have D := Lib.hid (F5.out _ hB)
  have HBf := Lib.hid (HB2.out.trans (hB.mono HB2.out.size))
  clear F5 k0 k1 k2 k3 HB2 hB
  go_wp2_with fail
  refine D.out.mono ?_
  rintro e w7 ⟨rfl, rfl⟩
  go_wp2_with fail
  go_ret
  exact ⟨rfl, HBf.out⟩
end Go.Proofs.YtodpaeaeigjmdaaDoor.law7
