/- What the program's Blocks and Scan (mvcc) come to. Conditions: few cells, few versions, cells that may be. -/
import Derived.Test.YtlkhmpfdajefiaaMvcC
import Derived.Test.YtlkhmpfdajefiaaRef8n
namespace Go.Proofs.Ytlkhmpfdajefiaa.mvi
open Go Go.RowKit Go.Proofs.Ytlkhmpfdajefiaa.kit Go.Proofs.Ytlkhmpfdajefiaa.nums Go.Proofs.Ytlkhmpfdajefiaa.st Go.Proofs.Ytlkhmpfdajefiaa.mv Go.Proofs.Ytlkhmpfdajefiaa.ref8
set_option linter.unusedVariables false

/-- The first lock that blocks. -/
def blkW (t : StL) (ds : List CellL) : Option LockL := (ds.find? fun x => x.locked && !lessF t x.lock.at_).map (·.lock)
theorem blkW_step (ds : List CellL) (t : StL) (j : Nat) (x : CellL) (hx : ds[j]? = some x) : blkW t (ds.drop j) = if x.locked && !lessF t x.lock.at_ then some x.lock else blkW t (ds.drop (j + 1)) := by
  obtain ⟨hj, rfl⟩ := List.getElem?_eq_some_iff.1 hx
  rw [List.drop_eq_getElem_cons hj]
  unfold blkW
  rw [List.find?_cons]
  split
  · rename_i h; rw [h]; rfl
  · rename_i h; rw [h]; rfl
set_option maxRecDepth 100000 in
set_option maxHeartbeats 4000000 in
theorem blocks_any (A : Option Addr) (n c : Nat) (cs : List CellL) (lo hi : ByteArray) (t : StL) (w : World) (B : Nat) (hR : RdC w B A n cs) (hB : B ≤ w.heap.size) (hf : Few cs) (hok : okC cs) (hnc : n ≤ c) :
    Calls Try.prog 33 #[.slice A n c, .agg #[.string lo, .string hi], .agg (stC t).toArray] w fun e w' => e = .returned (lkV (blocksF cs lo hi t)) ∧ Below w.heap.size w w' := by
  obtain rfl : cs.length = n := hR.1
  have hn2 := hf.1
  have WI := Lib.hid (fun (wq : World) (h : Below w.heap.size w wq) => within_any A cs.length c cs lo hi wq B (hR.below (h.mono hB)) (by have := h.size; omega) hn2 hok.1 hnc)
  have LS := Lib.hid (fun (a : StL) w => less_any t a w)
  have HW := Lib.hid (show ∀ ds, ds = (cs.filter fun x => inF x.key lo hi) → blocksF cs lo hi t = blkW t ds from fun ds e => by rw [blocks_within, e]; rfl)
  have HI := Lib.hid (fun (ds : List CellL) => blkW_step ds t)
  clear hR hf hok
  obtain ⟨z, hz⟩ : ∃ z, blocksF cs lo hi t = z := ⟨_, rfl⟩
  rw [hz] at HW ⊢
  clear hz
  obtain ⟨tw, tt⟩ := t
  unfold stC
  dsimp only at LS ⊢
  have hB0 : Hid (Below w.heap.size w (((w.alloc (.cells #[.string lo, .string hi] 26)).alloc (.cells #[.int .i64 tw, .int .i64 tt] 24)).alloc (.cells #[.int .i64 0, .int .i64 0, .int .i64 0, .int .i64 0, .int .i64 0, .int .i64 0, .int .i64 0, .bool false, .string { data := #[] }] 38))) := ((((Below.refl _ _).alloc (Nat.le_refl _) _).alloc (by simp) _).alloc (by simp; omega) _)
  have k0 : Hid (Blk 26 (((w.alloc (.cells #[.string lo, .string hi] 26)).alloc (.cells #[.int .i64 tw, .int .i64 tt] 24)).alloc (.cells #[.int .i64 0, .int .i64 0, .int .i64 0, .int .i64 0, .int .i64 0, .int .i64 0, .int .i64 0, .bool false, .string { data := #[] }] 38)) w.heap.size [.string lo, .string hi]) := Blk.alloc (Blk.alloc (heap_alloc_new w _) _) _
  have k1 : Hid (Blk 24 (((w.alloc (.cells #[.string lo, .string hi] 26)).alloc (.cells #[.int .i64 tw, .int .i64 tt] 24)).alloc (.cells #[.int .i64 0, .int .i64 0, .int .i64 0, .int .i64 0, .int .i64 0, .int .i64 0, .int .i64 0, .bool false, .string { data := #[] }] 38)) (w.heap.size + 1) [.int .i64 tw, .int .i64 tt]) := by
    have := Blk.alloc (E := 24) (cs := [.int .i64 tw, .int .i64 tt]) (heap_alloc_new (w.alloc (.cells #[.string lo, .string hi] 26)) _) (.cells #[.int .i64 0, .int .i64 0, .int .i64 0, .int .i64 0, .int .i64 0, .int .i64 0, .int .i64 0, .bool false, .string { data := #[] }] 38)
    exact Lib.hid (by simpa using this)
  have k2 : Hid (Blk 38 (((w.alloc (.cells #[.string lo, .string hi] 26)).alloc (.cells #[.int .i64 tw, .int .i64 tt] 24)).alloc (.cells #[.int .i64 0, .int .i64 0, .int .i64 0, .int .i64 0, .int .i64 0, .int .i64 0, .int .i64 0, .bool false, .string { data := #[] }] 38)) (w.heap.size + 2) [.int .i64 0, .int .i64 0, .int .i64 0, .int .i64 0, .int .i64 0, .int .i64 0, .int .i64 0, .bool false, .string { data := #[] }]) := by
    have := heap_alloc_new ((w.alloc (.cells #[.string lo, .string hi] 26)).alloc (.cells #[.int .i64 tw, .int .i64 tt] 24)) (.cells #[.int .i64 0, .int .i64 0, .int .i64 0, .int .i64 0, .int .i64 0, .int .i64 0, .int .i64 0, .bool false, .string { data := #[] }] 38)
    exact Lib.hid (by simpa [Blk] using this)
  go_enter Try.func33, Try.ntmps33
  go_upto_region 1 with (fail)
  (try rw [show w.heap.size + 1 + 1 = w.heap.size + 2 by omega])
  generalize (((w.alloc (.cells #[.string lo, .string hi] 26)).alloc (.cells #[.int .i64 tw, .int .i64 tt] 24)).alloc (.cells #[.int .i64 0, .int .i64 0, .int .i64 0, .int .i64 0, .int .i64 0, .int .i64 0, .int .i64 0, .bool false, .string { data := #[] }] 38)) = w1 at *
  have hs2 := k2.out.lt
  obtain ⟨c0, c1⟩ := blk2 k0.out
  go_wp2_with fail
  refine (WI.out _ hB0.out).mono ?_
  rintro e w2 ⟨A2, c2, m, ds, rfl, hds, hmn, hRd, hB2⟩
  have hB12 := hB0.out.trans (hB2.mono hB0.out.size)
  obtain rfl : ds.length = m := hRd.1
  have HR := Lib.hid (fun j (hj : j < ds.length) => hRd.at_ hj)
  have HZ : Hid (z = blkW ⟨tw, tt⟩ (ds.drop 0)) := HW.out ds hds
  have HI2 := Lib.hid (HI.out ds)
  have HK := Lib.hid (fun (wq : World) (h : Below w2.heap.size w2 wq) => (show Blk 24 wq (w.heap.size + 1) [.int .i64 tw, .int .i64 tt] ∧ Blk 38 wq (w.heap.size + 2) [.int .i64 0, .int .i64 0, .int .i64 0, .int .i64 0, .int .i64 0, .int .i64 0, .int .i64 0, .bool false, .string { data := #[] }] from ⟨(k1.out.below hB2 (by omega)).below h (by have := hB2.size; omega), (k2.out.below hB2 hs2).below h (by have := hB2.size; omega)⟩))
  clear hds hRd WI HW HI c0 c1
  have hs3 := hB2.size
  have hs4 := hB12.size
  go_wp2_with fail
  go_loopw [14] (fun iv wr => ∃ j : Nat, j ≤ ds.length ∧ iv = .int .i64 j ∧ Hid (z = blkW ⟨tw, tt⟩ (ds.drop j)) ∧ Below w2.heap.size w2 wr) (fun iv _ => ds.length - (intOf iv).toNat)
  case atStart => exact ⟨0, Nat.zero_le _, rfl, HZ, Below.refl _ _⟩
  case round =>
    obtain ⟨j, hj, rfl, hI, hBr⟩ := hrel
    have hBw := hB12.trans (hBr.mono hB12.size)
    by_cases hlt : j < ds.length
    · obtain ⟨b, o, x, sv, rfl, hbB, hx, hS, hA⟩ := HR.out j hlt
      obtain ⟨As, cv, rfl, _, _, _⟩ := hS
      obtain ⟨a0, a1, a2, a3, a4, a5, a6, a7, a8, a9, a10, a11⟩ := at12 (hA.below (show b < w2.heap.size by omega) hBr)
      have hI2 := Lib.hid (hI.out.trans (HI2.out j x hx))
      have LSx := Lib.hid (fun w => LS.out x.lock.at_ w)
      have hsr := hBr.size
      have hBx := hBr.alloc hsr (.cells #[.string x.key, .slice As x.vers.length cv, .bool x.locked, .int .i64 x.lock.by_.node, .int .i64 x.lock.by_.life, .int .i64 x.lock.by_.seq, .int .i64 x.lock.by_.att, .int .i64 x.lock.home, .int .i64 x.lock.at_.wall, .int .i64 x.lock.at_.tie, .bool x.lock.drop, .string x.lock.data] 45)
      have kx : Blk 45 (wr.alloc (.cells #[.string x.key, .slice As x.vers.length cv, .bool x.locked, .int .i64 x.lock.by_.node, .int .i64 x.lock.by_.life, .int .i64 x.lock.by_.seq, .int .i64 x.lock.by_.att, .int .i64 x.lock.home, .int .i64 x.lock.at_.wall, .int .i64 x.lock.at_.tie, .bool x.lock.drop, .string x.lock.data] 45)) wr.heap.size [.string x.key, .slice As x.vers.length cv, .bool x.locked, .int .i64 x.lock.by_.node, .int .i64 x.lock.by_.life, .int .i64 x.lock.by_.seq, .int .i64 x.lock.by_.att, .int .i64 x.lock.home, .int .i64 x.lock.at_.wall, .int .i64 x.lock.at_.tie, .bool x.lock.drop, .string x.lock.data] := heap_alloc_new wr _
      clear hI hA hx
      generalize hlk : x.locked = bl at *
      generalize hle : lessF ⟨tw, tt⟩ x.lock.at_ = be at *
      clear hlk hle
      go_upto_region 4 with (fail)
      clear a0 a1 a2 a3 a4 a5 a6 a7 a8 a9 a10 a11
      generalize (wr.alloc (.cells #[.string x.key, .slice As x.vers.length cv, .bool bl, .int .i64 x.lock.by_.node, .int .i64 x.lock.by_.life, .int .i64 x.lock.by_.seq, .int .i64 x.lock.by_.att, .int .i64 x.lock.home, .int .i64 x.lock.at_.wall, .int .i64 x.lock.at_.tie, .bool x.lock.drop, .string x.lock.data] 45)) = y at *
      obtain ⟨g, hg⟩ : ∃ g, wr.heap.size = g := ⟨_, rfl⟩
      rw [hg] at kx ⊢
      obtain ⟨a0, a1, a2, a3, a4, a5, a6, a7, a8, a9, a10, a11⟩ := blk12 kx
      obtain ⟨K1, K2⟩ := HK.out _ hBx
      obtain ⟨t0, t1⟩ := blk2 K1
      rcases bl with _ | _
      · have hV : Hid (z = blkW ⟨tw, tt⟩ (ds.drop (j + 1))) := by rw [hI2.out]; exact Lib.hid rfl
        clear hI2
        go_wp2_with fail
        go_roundw
        case rel => exact ⟨j + 1, by omega, by go_num, hV, hBx⟩
        case measure => simp [intOf]; omega
      rcases be with _ | _
      · have hV : Hid (z = some x.lock) := by rw [hI2.out]; exact Lib.hid rfl
        clear hI2
        go_wp2_with fail
        refine (LSx.out _).mono ?_
        rintro e w4 ⟨rfl, hB4⟩
        have hB14 := hBx.trans (hB4.mono hBx.size)
        have hBw4 := hB12.trans (hB14.mono hB12.size)
        have K := (HK.out _ hB14).2
        have kx4 := kx.below hB4 kx.lt
        clear a0 a1 a2 a3 a4 a5 a6 a7 a8 a9 a10 a11 t0 t1 K1 K2
        obtain ⟨a0, a1, a2, a3, a4, a5, a6, a7, a8, a9, a10, a11⟩ := blk12 kx4
        obtain ⟨d0, d1, d2, d3, d4, d5, d6, d7, d8⟩ := blk9 K
        have df := fun i => K.frozen i
        clear kx kx4
        go_wp2_with fail
        have sF := put9 K (.int .i64 x.lock.by_.node) (.int .i64 x.lock.by_.life) (.int .i64 x.lock.by_.seq) (.int .i64 x.lock.by_.att) (.int .i64 x.lock.home) (.int .i64 x.lock.at_.wall) (.int .i64 x.lock.at_.tie) (.bool x.lock.drop) (.string x.lock.data)
        have hBf : Below w.heap.size w (((((((((w4.setCell ⟨w.heap.size + 2, 0, none⟩ (.int .i64 x.lock.by_.node)).setCell ⟨w.heap.size + 2, 1, none⟩ (.int .i64 x.lock.by_.life)).setCell ⟨w.heap.size + 2, 2, none⟩ (.int .i64 x.lock.by_.seq)).setCell ⟨w.heap.size + 2, 3, none⟩ (.int .i64 x.lock.by_.att)).setCell ⟨w.heap.size + 2, 4, none⟩ (.int .i64 x.lock.home)).setCell ⟨w.heap.size + 2, 5, none⟩ (.int .i64 x.lock.at_.wall)).setCell ⟨w.heap.size + 2, 6, none⟩ (.int .i64 x.lock.at_.tie)).setCell ⟨w.heap.size + 2, 7, none⟩ (.bool x.lock.drop)).setCell ⟨w.heap.size + 2, 8, none⟩ (.string x.lock.data)) := (((((((((hBw4.setCell (p := ⟨w.heap.size + 2, 0, none⟩) (show w.heap.size ≤ w.heap.size + 2 by omega) (.int .i64 x.lock.by_.node)).setCell (p := ⟨w.heap.size + 2, 1, none⟩) (show w.heap.size ≤ w.heap.size + 2 by omega) (.int .i64 x.lock.by_.life)).setCell (p := ⟨w.heap.size + 2, 2, none⟩) (show w.heap.size ≤ w.heap.size + 2 by omega) (.int .i64 x.lock.by_.seq)).setCell (p := ⟨w.heap.size + 2, 3, none⟩) (show w.heap.size ≤ w.heap.size + 2 by omega) (.int .i64 x.lock.by_.att)).setCell (p := ⟨w.heap.size + 2, 4, none⟩) (show w.heap.size ≤ w.heap.size + 2 by omega) (.int .i64 x.lock.home)).setCell (p := ⟨w.heap.size + 2, 5, none⟩) (show w.heap.size ≤ w.heap.size + 2 by omega) (.int .i64 x.lock.at_.wall)).setCell (p := ⟨w.heap.size + 2, 6, none⟩) (show w.heap.size ≤ w.heap.size + 2 by omega) (.int .i64 x.lock.at_.tie)).setCell (p := ⟨w.heap.size + 2, 7, none⟩) (show w.heap.size ≤ w.heap.size + 2 by omega) (.bool x.lock.drop)).setCell (p := ⟨w.heap.size + 2, 8, none⟩) (show w.heap.size ≤ w.heap.size + 2 by omega) (.string x.lock.data))
        generalize (((((((((w4.setCell ⟨w.heap.size + 2, 0, none⟩ (.int .i64 x.lock.by_.node)).setCell ⟨w.heap.size + 2, 1, none⟩ (.int .i64 x.lock.by_.life)).setCell ⟨w.heap.size + 2, 2, none⟩ (.int .i64 x.lock.by_.seq)).setCell ⟨w.heap.size + 2, 3, none⟩ (.int .i64 x.lock.by_.att)).setCell ⟨w.heap.size + 2, 4, none⟩ (.int .i64 x.lock.home)).setCell ⟨w.heap.size + 2, 5, none⟩ (.int .i64 x.lock.at_.wall)).setCell ⟨w.heap.size + 2, 6, none⟩ (.int .i64 x.lock.at_.tie)).setCell ⟨w.heap.size + 2, 7, none⟩ (.bool x.lock.drop)).setCell ⟨w.heap.size + 2, 8, none⟩ (.string x.lock.data)) = wf at *
        obtain ⟨e0, e1, e2, e3, e4, e5, e6, e7, e8⟩ := blk9 sF
        (try simp only [Exit.inBlock, Exit.then])
        show bodyPost Try.prog Try.f33 _ Exit.ret _ wf
        refine bodyPost_ret (by simp [results, Try.results33, go_sem, e0, e1, e2, e3, e4, e5, e6, e7, e8]; try rfl) rfl ?_
        exact ⟨by rw [hV.out]; rfl, hBf⟩
      · have hV : Hid (z = blkW ⟨tw, tt⟩ (ds.drop (j + 1))) := by rw [hI2.out]; exact Lib.hid rfl
        clear hI2
        go_wp2_with fail
        refine (LSx.out _).mono ?_
        rintro e w4 ⟨rfl, hB4⟩
        have hB14 := hBx.trans (hB4.mono hBx.size)
        go_wp2_with fail
        go_roundw
        case rel => exact ⟨j + 1, by omega, by go_num, hV, hB14⟩
        case measure => simp [intOf]; omega
    · obtain rfl : j = ds.length := by omega
      have hV : Hid (z = none) := by rw [hI.out, List.drop_of_length_le (Nat.le_refl _)]; exact Lib.hid rfl
      have K := (HK.out _ hBr).2
      obtain ⟨d0, d1, d2, d3, d4, d5, d6, d7, d8⟩ := blk9 K
      have df := fun i => K.frozen i
      clear hI
      go_wp2_with fail
      have sF := put9 K (.int .i64 0) (.int .i64 0) (.int .i64 0) (.int .i64 0) (.int .i64 0) (.int .i64 0) (.int .i64 0) (.bool false) (.string { data := #[] })
      have hBf : Below w.heap.size w (((((((((wr.setCell ⟨w.heap.size + 2, 0, none⟩ (.int .i64 0)).setCell ⟨w.heap.size + 2, 1, none⟩ (.int .i64 0)).setCell ⟨w.heap.size + 2, 2, none⟩ (.int .i64 0)).setCell ⟨w.heap.size + 2, 3, none⟩ (.int .i64 0)).setCell ⟨w.heap.size + 2, 4, none⟩ (.int .i64 0)).setCell ⟨w.heap.size + 2, 5, none⟩ (.int .i64 0)).setCell ⟨w.heap.size + 2, 6, none⟩ (.int .i64 0)).setCell ⟨w.heap.size + 2, 7, none⟩ (.bool false)).setCell ⟨w.heap.size + 2, 8, none⟩ (.string { data := #[] })) := (((((((((hBw.setCell (p := ⟨w.heap.size + 2, 0, none⟩) (show w.heap.size ≤ w.heap.size + 2 by omega) (.int .i64 0)).setCell (p := ⟨w.heap.size + 2, 1, none⟩) (show w.heap.size ≤ w.heap.size + 2 by omega) (.int .i64 0)).setCell (p := ⟨w.heap.size + 2, 2, none⟩) (show w.heap.size ≤ w.heap.size + 2 by omega) (.int .i64 0)).setCell (p := ⟨w.heap.size + 2, 3, none⟩) (show w.heap.size ≤ w.heap.size + 2 by omega) (.int .i64 0)).setCell (p := ⟨w.heap.size + 2, 4, none⟩) (show w.heap.size ≤ w.heap.size + 2 by omega) (.int .i64 0)).setCell (p := ⟨w.heap.size + 2, 5, none⟩) (show w.heap.size ≤ w.heap.size + 2 by omega) (.int .i64 0)).setCell (p := ⟨w.heap.size + 2, 6, none⟩) (show w.heap.size ≤ w.heap.size + 2 by omega) (.int .i64 0)).setCell (p := ⟨w.heap.size + 2, 7, none⟩) (show w.heap.size ≤ w.heap.size + 2 by omega) (.bool false)).setCell (p := ⟨w.heap.size + 2, 8, none⟩) (show w.heap.size ≤ w.heap.size + 2 by omega) (.string { data := #[] }))
      generalize (((((((((wr.setCell ⟨w.heap.size + 2, 0, none⟩ (.int .i64 0)).setCell ⟨w.heap.size + 2, 1, none⟩ (.int .i64 0)).setCell ⟨w.heap.size + 2, 2, none⟩ (.int .i64 0)).setCell ⟨w.heap.size + 2, 3, none⟩ (.int .i64 0)).setCell ⟨w.heap.size + 2, 4, none⟩ (.int .i64 0)).setCell ⟨w.heap.size + 2, 5, none⟩ (.int .i64 0)).setCell ⟨w.heap.size + 2, 6, none⟩ (.int .i64 0)).setCell ⟨w.heap.size + 2, 7, none⟩ (.bool false)).setCell ⟨w.heap.size + 2, 8, none⟩ (.string { data := #[] })) = wf at *
      obtain ⟨e0, e1, e2, e3, e4, e5, e6, e7, e8⟩ := blk9 sF
      (try simp only [Exit.inBlock, Exit.then])
      show bodyPost Try.prog Try.f33 _ Exit.ret _ wf
      refine bodyPost_ret (by simp [results, Try.results33, go_sem, e0, e1, e2, e3, e4, e5, e6, e7, e8]; try rfl) rfl ?_
      exact ⟨by rw [hV.out]; rfl, hBf⟩
set_option maxRecDepth 100000 in
set_option maxHeartbeats 4000000 in
theorem scan_any (A : Option Addr) (n c : Nat) (cs : List CellL) (lo hi : ByteArray) (t : StL) (most : Int) (w : World) (B : Nat) (hR : RdC w B A n cs) (hB : B ≤ w.heap.size) (hf : Few cs) (hok : okC cs) (hnc : n ≤ c) :
    Calls Try.prog 22 #[.slice A n c, .agg #[.string lo, .string hi], .agg (stC t).toArray, .int .i64 most] w (RetPs w (scanF cs lo hi t) most) := by
  obtain rfl : cs.length = n := hR.1
  have hn2 := hf.1
  have WI := Lib.hid (fun (wq : World) (h : Below w.heap.size w wq) => within_any A cs.length c cs lo hi wq B (hR.below (h.mono hB)) (by have := h.size; omega) hn2 hok.1 hnc)
  have HV := Lib.hid (fun (x : CellL) (hx : x ∈ cs) => (show x.vers.length ≤ 1000 ∧ x.vers.Pairwise (fun a b => lessF a.at_ b.at_ = true) from ⟨hf.2 x hx, (hok.2 x hx).1.1⟩))
  have RD := Lib.hid (fun (A : Option Addr) (n c B : Nat) (vs : List VerL) (wq : World) (hB : B ≤ wq.heap.size) (hV : RdVs wq B A n vs) (hb : n ≤ 1000) (hs : vs.Pairwise (fun a b => lessF a.at_ b.at_ = true)) => read_any A n c vs t wq B hV hB hb hs)
  have HW := Lib.hid (show ∀ ds, ds = (cs.filter fun x => inF x.key lo hi) → scanF cs lo hi t = ds.filterMap (fun x => (ofF x.vers t).map fun d => (x.key, d)) from fun ds e => by rw [scan_within, e])
  obtain ⟨f, hfd⟩ : ∃ f : CellL → Option (ByteArray × ByteArray), f = fun x => (ofF x.vers t).map fun d => (x.key, d) := ⟨_, rfl⟩
  rw [← hfd] at HW
  have HFD : Hid (f = fun x => (ofF x.vers t).map fun d => (x.key, d)) := hfd
  obtain ⟨z, hz⟩ : ∃ z, scanF cs lo hi t = z := ⟨_, rfl⟩
  rw [hz] at HW ⊢
  clear hR hf hok hfd hz
  obtain ⟨tw, tt⟩ := t
  unfold stC
  dsimp only at RD ⊢
  have hB0 : Hid (Below w.heap.size w ((w.alloc (.cells #[.string lo, .string hi] 26)).alloc (.cells #[.int .i64 tw, .int .i64 tt] 24))) := ((Below.refl _ _).alloc (Nat.le_refl _) _).alloc (by simp) _
  have k0 : Hid (Blk 26 ((w.alloc (.cells #[.string lo, .string hi] 26)).alloc (.cells #[.int .i64 tw, .int .i64 tt] 24)) w.heap.size [.string lo, .string hi]) := Blk.alloc (heap_alloc_new w _) _
  have k1 : Hid (Blk 24 ((w.alloc (.cells #[.string lo, .string hi] 26)).alloc (.cells #[.int .i64 tw, .int .i64 tt] 24)) (w.heap.size + 1) [.int .i64 tw, .int .i64 tt]) := by
    have := heap_alloc_new (w.alloc (.cells #[.string lo, .string hi] 26)) (.cells #[.int .i64 tw, .int .i64 tt] 24)
    exact Lib.hid (by simpa [Blk] using this)
  go_enter Try.func22, Try.ntmps22
  go_upto_region 2 with (fail)
  generalize ((w.alloc (.cells #[.string lo, .string hi] 26)).alloc (.cells #[.int .i64 tw, .int .i64 tt] 24)) = w1 at *
  have hs2 := k1.out.lt
  obtain ⟨c0, c1⟩ := blk2 k0.out
  go_wp2_with fail
  refine (WI.out _ hB0.out).mono ?_
  rintro e w2 ⟨A2, c2, m0, ds, rfl, hds, hmn, hRd, hB2⟩
  have hB12 := hB0.out.trans (hB2.mono hB0.out.size)
  obtain rfl : ds.length = m0 := hRd.1
  have HR := Lib.hid (fun j (hj : j < ds.length) => hRd.at_ hj)
  have HZ := Lib.hid (HW.out ds hds)
  have HV2 := Lib.hid (fun (x : CellL) (hx : x ∈ ds) => HV.out x (by rw [hds] at hx; exact (List.mem_filter.1 hx).1))
  have HK := Lib.hid (fun (wq : World) (h : Below w2.heap.size w2 wq) => (show Blk 24 wq (w.heap.size + 1) [.int .i64 tw, .int .i64 tt] from (k1.out.below hB2 (by omega)).below h (by have := hB2.size; omega)))
  clear hds hRd WI HW HV c0 c1
  have hs3 := hB2.size
  have hs4 := hB12.size
  go_wp2_with fail
  go_loopw [10, 13, 14, 19] (fun lv u1 u2 iv wr => ∃ (j m : Nat) (A' : Option Addr) (c' : Nat), j ≤ ds.length ∧ iv = .int .i64 j ∧ lv = .slice A' m c' ∧ Hid (((ds.take j).filterMap f).length = m) ∧ m ≤ j ∧ Hid ((m : Int) ≤ max most 0) ∧ OwnPs wr w2.heap.size (.slice A' m c') ((ds.take j).filterMap f) ∧ Below w2.heap.size w2 wr) (fun _ _ _ iv _ => ds.length - (intOf iv).toNat)
  case atStart => exact ⟨0, 0, none, 0, Nat.zero_le _, rfl, rfl, rfl, Nat.le_refl _, Lib.hid (by omega), World.ownsRow_nil _ _ _ 2, Below.refl _ _⟩
  case round =>
    obtain ⟨j, m, A', c', hj, rfl, rfl, hm, hmj, hmo, hO, hBr⟩ := hrel
    have hBw := hB12.trans (hBr.mono hB12.size)
    have hsr := hBr.size
    by_cases hlt : j < ds.length
    · obtain ⟨b, o, x, sv, rfl, hbB, hx, hS, hA⟩ := HR.out j hlt
      obtain ⟨hv1, hv2⟩ := HV2.out x (List.mem_of_getElem? hx)
      obtain ⟨As, cv, rfl, hc1, hc2, hRv⟩ := hS
      obtain ⟨a0, a1, a2, a3, a4, a5, a6, a7, a8, a9, a10, a11⟩ := at12 (hA.below (show b < w2.heap.size by omega) hBr)
      have HST := Lib.hid (fm_step' (f := f) hx)
      have HFX : Hid (f x = (ofF x.vers ⟨tw, tt⟩).map fun d => (x.key, d)) := by rw [HFD.out]; exact Lib.hid rfl
      have hBx := hBr.alloc hsr (.cells #[.string x.key, .slice As x.vers.length cv, .bool x.locked, .int .i64 x.lock.by_.node, .int .i64 x.lock.by_.life, .int .i64 x.lock.by_.seq, .int .i64 x.lock.by_.att, .int .i64 x.lock.home, .int .i64 x.lock.at_.wall, .int .i64 x.lock.at_.tie, .bool x.lock.drop, .string x.lock.data] 45)
      have RDx := Lib.hid (fun (wq : World) (h : Below w2.heap.size w2 wq) => RD.out As x.vers.length cv B x.vers wq (by have := h.size; omega) (hRv.below (h.mono (by omega))) hv1 hv2)
      have kx : Blk 45 (wr.alloc (.cells #[.string x.key, .slice As x.vers.length cv, .bool x.locked, .int .i64 x.lock.by_.node, .int .i64 x.lock.by_.life, .int .i64 x.lock.by_.seq, .int .i64 x.lock.by_.att, .int .i64 x.lock.home, .int .i64 x.lock.at_.wall, .int .i64 x.lock.at_.tie, .bool x.lock.drop, .string x.lock.data] 45)) wr.heap.size [.string x.key, .slice As x.vers.length cv, .bool x.locked, .int .i64 x.lock.by_.node, .int .i64 x.lock.by_.life, .int .i64 x.lock.by_.seq, .int .i64 x.lock.by_.att, .int .i64 x.lock.home, .int .i64 x.lock.at_.wall, .int .i64 x.lock.at_.tie, .bool x.lock.drop, .string x.lock.data] := heap_alloc_new wr _
      have hOx := hO.below ((Below.refl wr.heap.size wr).alloc (Nat.le_refl _) (.cells #[.string x.key, .slice As x.vers.length cv, .bool x.locked, .int .i64 x.lock.by_.node, .int .i64 x.lock.by_.life, .int .i64 x.lock.by_.seq, .int .i64 x.lock.by_.att, .int .i64 x.lock.home, .int .i64 x.lock.at_.wall, .int .i64 x.lock.at_.tie, .bool x.lock.drop, .string x.lock.data] 45))
      clear hA hx hRv hv1 hv2 hO
      generalize hof : ofF x.vers ⟨tw, tt⟩ = r at *
      clear hof
      go_upto_region 5 with (fail)
      clear a0 a1 a2 a3 a4 a5 a6 a7 a8 a9 a10 a11
      generalize (wr.alloc (.cells #[.string x.key, .slice As x.vers.length cv, .bool x.locked, .int .i64 x.lock.by_.node, .int .i64 x.lock.by_.life, .int .i64 x.lock.by_.seq, .int .i64 x.lock.by_.att, .int .i64 x.lock.home, .int .i64 x.lock.at_.wall, .int .i64 x.lock.at_.tie, .bool x.lock.drop, .string x.lock.data] 45)) = y at *
      obtain ⟨g, hg⟩ : ∃ g, wr.heap.size = g := ⟨_, rfl⟩
      rw [hg] at kx ⊢
      obtain ⟨a0, a1, a2, a3, a4, a5, a6, a7, a8, a9, a10, a11⟩ := blk12 kx
      obtain ⟨t0, t1⟩ := blk2 (HK.out _ hBx)
      go_wp2_with fail
      refine (RDx.out _ hBx).mono ?_
      rintro e w4 ⟨rfl, hB4⟩
      have hB14 := hBx.trans (hB4.mono hBx.size)
      have kx4 := kx.below hB4 kx.lt
      have hO4 := hOx.below hB4
      clear a0 a1 a2 a3 a4 a5 a6 a7 a8 a9 a10 a11 t0 t1 kx hOx RDx
      unfold ofV
      rcases r with _ | d
      · have HN : Hid ((ds.take (j + 1)).filterMap f = (ds.take j).filterMap f) := by
          rw [HST.out, HFX.out]
          simp [Hid]
        clear HST HFX
        go_wp2_with fail
        go_roundw
        case rel => exact ⟨j + 1, m, A', c', by omega, by go_num, rfl, by rw [HN.out]; exact hm, by omega, hmo, by rw [HN.out]; exact hO4, hB14⟩
        case measure => simp [intOf]; omega
      · have HN : Hid ((ds.take (j + 1)).filterMap f = (ds.take j).filterMap f ++ [(x.key, d)]) := by
          rw [HST.out, HFX.out]
          simp [Hid]
        clear HST HFX
        by_cases hmm : (m : Int) ≥ most
        · have HL : Hid (¬ (z.length : Int) ≤ max most 0) := by
            have h1 : ((ds.take (j + 1)).filterMap f).length = m + 1 := by rw [HN.out, List.length_append, hm.out]; rfl
            have h2 : z.length = ((ds.take (j + 1)).filterMap f).length + ((ds.drop (j + 1)).filterMap f).length := by
              rw [HZ.out]
              conv => lhs; rw [← List.take_append_drop (j + 1) ds]
              rw [List.filterMap_append, List.length_append]
            exact Lib.hid (by omega)
          clear HN
          go_wp2_with fail
          go_ret2
          exact ⟨.inr ⟨by have := HL.out; omega, rfl⟩, hB12.trans (hB14.mono hB12.size)⟩
        · have HMO : Hid (((m + 1 : Nat) : Int) ≤ max most 0) := Lib.hid (by omega)
          obtain ⟨a0, a1, a2, a3, a4, a5, a6, a7, a8, a9, a10, a11⟩ := blk12 kx4
          have hsz4 := hB14.size
          have hAn : At (w4.alloc (.cells #[.string x.key, .string d] 58)) w4.heap.size 0 (prC (x.key, d)) := at_new w4 58 _
          have hOn := hO4.below ((Below.refl w4.heap.size w4).alloc (Nat.le_refl _) (.cells #[.string x.key, .string d] 58))
          have hBn := hB14.alloc hsz4 (.cells #[.string x.key, .string d] 58)
          have hw1n : w2.heap.size ≤ (w4.alloc (.cells #[.string x.key, .string d] 58)).heap.size := by simp; omega
          clear hO4 kx4
          go_wp2_with (at_builtin; with_reducible refine wpList_append_pair rfl (.tmp 36) (.tmp 41) rfl w2.heap.size A' m c' _ hm.out rfl hOn (w4.heap.size + 1) w4.heap.size 0 1 (x.key, d) rfl (Nat.lt_succ_self _) hAn ?hb1 ?hbase1 ?_)
          case hb1 => omega
          case hbase1 => exact hw1n
          intro A3 c3 w5 hO5 hB5
          have hB15 := hBn.trans hB5
          go_wp2_with fail
          go_roundw
          case rel => exact ⟨j + 1, m + 1, A3, c3, by omega, by go_num, rfl, by rw [HN.out, List.length_append, hm.out]; exact rfl, by omega, HMO, by rw [HN.out]; exact hO5, hB15⟩
          case measure => simp [intOf]; omega
    · obtain rfl : j = ds.length := by omega
      rw [List.take_length] at hO hm
      have hOf := hO.more (base' := w.heap.size) (by omega)
      have HZ2 := Lib.hid hm.out
      rw [← HZ.out] at hOf HZ2
      have HOf := Lib.hid hOf
      clear hO hm hOf
      go_wp2_with fail
      go_ret2
      unfold RetPs
      rw [HZ2.out]
      exact ⟨.inl ⟨hmo.out, A', c', rfl, HOf.out⟩, hBw⟩
end Go.Proofs.Ytlkhmpfdajefiaa.mvi
