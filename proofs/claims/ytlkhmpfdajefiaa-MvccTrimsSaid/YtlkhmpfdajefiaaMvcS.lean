/- What the program's Settle (mvcc) comes to. Conditions: few cells, few versions, cells that may be. -/
import Derived.Test.YtlkhmpfdajefiaaMvcJ
import Derived.Test.YtlkhmpfdajefiaaRef8i
import Derived.Test.YtlkhmpfdajefiaaJoin0
namespace Go.Proofs.Ytlkhmpfdajefiaa.mvi
open Go Go.RowKit Go.Proofs.Ytlkhmpfdajefiaa.kit Go.Proofs.Ytlkhmpfdajefiaa.nums Go.Proofs.Ytlkhmpfdajefiaa.st Go.Proofs.Ytlkhmpfdajefiaa.mv Go.Proofs.Ytlkhmpfdajefiaa.ref8 Go.Proofs.Ytlkhmpfdajefiaa.ins
set_option linter.unusedVariables false

theorem own_vs_keep {w w' : World} {base : Nat} {v : Value} {vs : List VerL} (h : OwnVs w base v vs) (hk : ∀ q, base ≤ q → w'.heap[q]? = w.heap[q]?) : OwnVs w' base v vs := by
  refine ⟨h.1, ?_⟩
  rcases h.2 with hn | ⟨g, cap, cur, rfl, hbg, hg, r⟩
  · exact .inl hn
  · exact .inr ⟨g, cap, cur, rfl, hbg, by rw [hk g hbg]; exact hg, r⟩
set_option maxRecDepth 100000 in
set_option maxHeartbeats 4000000 in
theorem settle_any (A : Option Addr) (n c : Nat) (cs : List CellL) (t : TrL) (yes : Bool) (w : World) (B : Nat) (hR : RdC w B A n cs) (hB : B ≤ w.heap.size) (hf : Few cs) (hok : okC cs) :
    Calls Try.prog 24 #[.slice A n c, .agg #[.int .i64 t.node, .int .i64 t.life, .int .i64 t.seq, .int .i64 t.att], .bool yes] w (RetCs w (settleF t yes cs)) := by
  obtain rfl : cs.length = n := hR.1
  have hn2 := hf.1
  have HR := Lib.hid (fun j (hj : j < cs.length) => hR.at_ hj)
  have HF := Lib.hid (fun (x : CellL) (hx : x ∈ cs) => (show x.vers.length ≤ 1000 ∧ x.vers.Pairwise (fun a b => lessF a.at_ b.at_ = true) from ⟨hf.2 x hx, (hok.2 x hx).1.1⟩))
  have HH := Lib.hid (fun (x : CellL) (sv : Value) (w : World) => holds_any t x sv w)
  have DC := Lib.hid (fun (l : LockL) w => decided_any l w)
  rw [settle_def]
  obtain ⟨f, hfd⟩ : ∃ f, f = oneFree t yes := ⟨_, rfl⟩
  rw [← hfd]
  have HFD : Hid (f = oneFree t yes) := hfd
  clear hR hf hok hfd
  have hB0 : Hid (Below w.heap.size w (w.alloc (.cells #[.int .i64 t.node, .int .i64 t.life, .int .i64 t.seq, .int .i64 t.att] 28))) := (Below.refl _ _).alloc (Nat.le_refl _) _
  have k0 : Hid (Blk 28 (w.alloc (.cells #[.int .i64 t.node, .int .i64 t.life, .int .i64 t.seq, .int .i64 t.att] 28)) w.heap.size [.int .i64 t.node, .int .i64 t.life, .int .i64 t.seq, .int .i64 t.att]) := heap_alloc_new w _
  go_enter Try.func24, Try.ntmps24
  go_upto_region 2 with (fail)
  generalize (w.alloc (.cells #[.int .i64 t.node, .int .i64 t.life, .int .i64 t.seq, .int .i64 t.att] 28)) = w1 at *
  have hs1 : w.heap.size < w1.heap.size := k0.out.lt
  have K0 : Hid (∀ wq, Below w1.heap.size w1 wq → Blk 28 wq w.heap.size [.int .i64 t.node, .int .i64 t.life, .int .i64 t.seq, .int .i64 t.att]) := fun wq hq => k0.out.below hq hs1
  go_wp2_with fail
  go_loopw [7, 12] (fun ov iv wr => ∃ (j m : Nat) (A' : Option Addr) (c' : Nat), j ≤ cs.length ∧ iv = .int .i64 j ∧ ov = .slice A' m c' ∧ Hid (((cs.take j).filterMap f).length = m) ∧ m ≤ j ∧ Hid (OwnCs2 wr w1.heap.size w1.heap.size (.slice A' m c') ((cs.take j).filterMap f)) ∧ Below w1.heap.size w1 wr) (fun _ iv _ => cs.length - (intOf iv).toNat)
  case atStart => exact ⟨0, 0, none, 0, Nat.zero_le _, rfl, rfl, rfl, Nat.le_refl _, OwnCs2.nil _ _ _, Below.refl _ _⟩
  case round =>
    obtain ⟨j, m, A', c', hj, rfl, rfl, hm, hmj, hO, hBr⟩ := hrel
    have hsr := hBr.size
    have hBw := hB0.out.trans (hBr.mono hB0.out.size)
    by_cases hlt : j < cs.length
    · obtain ⟨b, o, x, sv, rfl, hbB, hx, hS, hA⟩ := HR.out j hlt
      obtain ⟨hv1, hv2⟩ := HF.out x (List.mem_of_getElem? hx)
      have HV2 := Lib.hid hv2
      obtain ⟨As, cv, rfl, hc1, hc2, hRv⟩ := hS
      obtain ⟨a0, a1, a2, a3, a4, a5, a6, a7, a8, a9, a10, a11⟩ := at12 (hA.below (show b < w.heap.size by omega) hBw)
      have HST := Lib.hid (fm_step (f := f) hx)
      have hyw : Hid (∀ q, q < wr.heap.size → (wr.alloc (.cells #[.string x.key, .slice As x.vers.length cv, .bool x.locked, .int .i64 x.lock.by_.node, .int .i64 x.lock.by_.life, .int .i64 x.lock.by_.seq, .int .i64 x.lock.by_.att, .int .i64 x.lock.home, .int .i64 x.lock.at_.wall, .int .i64 x.lock.at_.tie, .bool x.lock.drop, .string x.lock.data] 45)).heap[q]? = wr.heap[q]?) := fun q hq => heap_alloc_old wr _ hq
      have kx : Blk 45 (wr.alloc (.cells #[.string x.key, .slice As x.vers.length cv, .bool x.locked, .int .i64 x.lock.by_.node, .int .i64 x.lock.by_.life, .int .i64 x.lock.by_.seq, .int .i64 x.lock.by_.att, .int .i64 x.lock.home, .int .i64 x.lock.at_.wall, .int .i64 x.lock.at_.tie, .bool x.lock.drop, .string x.lock.data] 45)) wr.heap.size [.string x.key, .slice As x.vers.length cv, .bool x.locked, .int .i64 x.lock.by_.node, .int .i64 x.lock.by_.life, .int .i64 x.lock.by_.seq, .int .i64 x.lock.by_.att, .int .i64 x.lock.home, .int .i64 x.lock.at_.wall, .int .i64 x.lock.at_.tie, .bool x.lock.drop, .string x.lock.data] := heap_alloc_new wr _
      have hBx := hBr.alloc hsr (.cells #[.string x.key, .slice As x.vers.length cv, .bool x.locked, .int .i64 x.lock.by_.node, .int .i64 x.lock.by_.life, .int .i64 x.lock.by_.seq, .int .i64 x.lock.by_.att, .int .i64 x.lock.home, .int .i64 x.lock.at_.wall, .int .i64 x.lock.at_.tie, .bool x.lock.drop, .string x.lock.data] 45)
      have HRV := Lib.hid (fun (wq : World) (h : Below w.heap.size w wq) => (show RdVs wq B As x.vers.length x.vers from hRv.below (h.mono hB)))
      have HONE : Hid (f x = keepF (freeF t yes x)) := by rw [HFD.out]; exact Lib.hid rfl
      clear hA hx hRv hv2
      go_upto_region 5 with (fail)
      clear a0 a1 a2 a3 a4 a5 a6 a7 a8 a9 a10 a11
      obtain ⟨g, hg⟩ : ∃ g, wr.heap.size = g := ⟨_, rfl⟩
      rw [hg] at kx hyw ⊢
      have hgw : w1.heap.size ≤ g := by omega
      generalize (wr.alloc (.cells #[.string x.key, .slice As x.vers.length cv, .bool x.locked, .int .i64 x.lock.by_.node, .int .i64 x.lock.by_.life, .int .i64 x.lock.by_.seq, .int .i64 x.lock.by_.att, .int .i64 x.lock.home, .int .i64 x.lock.at_.wall, .int .i64 x.lock.at_.tie, .bool x.lock.drop, .string x.lock.data] 45)) = y at *
      have hyl := kx.lt
      obtain ⟨a0, a1, a2, a3, a4, a5, a6, a7, a8, a9, a10, a11⟩ := blk12 kx
      have OW := Lib.hid (own_any As x.vers.length cv x.vers y B (HRV.out _ (hB0.out.trans (hBx.mono hB0.out.size))) hv1)
      go_wp2_with fail
      refine OW.out.mono ?_
      rintro e y3 ⟨A3, c3, rfl, hO3, hY3⟩
      have hG3 : Below g y y3 := hY3.mono (by omega)
      have k3 := kx.below hY3 hyl
      clear a0 a1 a2 a3 a4 a5 a6 a7 a8 a9 a10 a11 OW HRV kx
      obtain ⟨a0, a1, a2, a3, a4, a5, a6, a7, a8, a9, a10, a11⟩ := blk12 k3
      have df := fun i => k3.frozen i
      have k4 : Blk 45 (y3.setCell ⟨g, 1, none⟩ (.slice A3 x.vers.length c3)) g [.string x.key, .slice A3 x.vers.length c3, .bool x.locked, .int .i64 x.lock.by_.node, .int .i64 x.lock.by_.life, .int .i64 x.lock.by_.seq, .int .i64 x.lock.by_.att, .int .i64 x.lock.home, .int .i64 x.lock.at_.wall, .int .i64 x.lock.at_.tie, .bool x.lock.drop, .string x.lock.data] := k3.set_ 1 _
      have hG4 : Below g y (y3.setCell ⟨g, 1, none⟩ (.slice A3 x.vers.length c3)) := hG3.setCell (p := ⟨g, 1, none⟩) (Nat.le_refl _) _
      have hO4 : OwnVs (y3.setCell ⟨g, 1, none⟩ (.slice A3 x.vers.length c3)) y.heap.size (.slice A3 x.vers.length c3) x.vers := own_vs_keep hO3 fun q hq => Below.heap_setCell y3 ⟨g, 1, none⟩ _ q (show q ≠ g by omega)
      go_upto_region 6 with (fail)
      clear a0 a1 a2 a3 a4 a5 a6 a7 a8 a9 a10 a11 df k3 hO3 hG3 hY3
      generalize (y3.setCell ⟨g, 1, none⟩ (.slice A3 x.vers.length c3)) = y4 at *
      have HOUT : Hid (∀ wq, Below g y wq → OwnCs2 wq w1.heap.size w1.heap.size (.slice A' m c') ((cs.take j).filterMap f) ∧ Below w1.heap.size w1 wq) := fun wq hq => ⟨hO.out.keep (Nat.le_refl _) fun q _ hq2 => (hq.block q (by omega)).trans (hyw.out q (by omega)), hBx.trans (hq.mono hgw)⟩
      clear hO hyw
      obtain ⟨a0, a1, a2, a3, a4, a5, a6, a7, a8, a9, a10, a11⟩ := blk12 k4
      have hB4 := (HOUT.out _ hG4).2
      obtain ⟨t0, t1, t2, t3⟩ := blk4 (K0.out _ hB4)
      have HHx := Lib.hid (fun w => HH.out x (.slice A3 x.vers.length c3) w)
      generalize hhb : (x.locked && decide (x.lock.by_ = t)) = hb at *
      go_wp2_with fail
      refine (HHx.out _).mono ?_
      rintro e y5 ⟨rfl, hY5⟩
      have hg4 : g < y4.heap.size := k4.lt
      have hys : y.heap.size ≤ y4.heap.size := hG4.size
      have hG5 : Below g y y5 := hG4.trans (hY5.mono (by omega))
      have k5 := k4.below hY5 hg4
      have hO5 := hO4.below hY5
      clear a0 a1 a2 a3 a4 a5 a6 a7 a8 a9 a10 a11 t0 t1 t2 t3 k4 hO4 HHx hB4 hG4
      rcases hb with _ | _
      · have HEQ : Hid (f x = keepF x) := by rw [HONE.out, free_other hhb]; exact Lib.hid rfl
        obtain ⟨a0, a1, a2, a3, a4, a5, a6, a7, a8, a9, a10, a11⟩ := blk12 k5
        clear HONE hhb
        have KP := Lib.hid (show Calls Try.prog 41 #[.slice A' m c', .agg #[.string x.key, .slice A3 x.vers.length c3, .bool x.locked, .int .i64 x.lock.by_.node, .int .i64 x.lock.by_.life, .int .i64 x.lock.by_.seq, .int .i64 x.lock.by_.att, .int .i64 x.lock.home, .int .i64 x.lock.at_.wall, .int .i64 x.lock.at_.tie, .bool x.lock.drop, .string x.lock.data]] y5 (RetKeep y5 w1.heap.size w1.heap.size A' m c' ((cs.take j).filterMap f ++ (keepF x).toList)) from keep_any A' m c' _ x A3 c3 y5 w1.heap.size w1.heap.size (HOUT.out _ hG5).1 hm.out (hO5.vsIn.more (by omega)) (by omega) (Nat.le_refl _) (HOUT.out _ hG5).2.size)
        have hBY := (HOUT.out _ hG5).2
        clear hO5 hG5 HOUT
        go_wp2_with fail
        refine KP.out.mono ?_
        rintro e y9 ⟨A9, c9, rfl, hO9, hB9, _⟩
        have HN : Hid ((cs.take (j + 1)).filterMap f = (cs.take j).filterMap f ++ (keepF x).toList) := by
          rw [HST.out, HEQ.out]
          exact Lib.hid rfl
        rw [← HN.out] at hO9 ⊢
        have hBf := hBY.trans hB9
        have HO9 := Lib.hid hO9
        have hlen : ((cs.take (j + 1)).filterMap f).length ≤ j + 1 := fm_len _ _ _
        generalize hLL : ((cs.take (j + 1)).filterMap f).length = ll at *
        clear hO9 KP a0 a1 a2 a3 a4 a5 a6 a7 a8 a9 a10 a11
        go_wp2_with fail
        go_roundw
        case rel => exact ⟨j + 1, ll, A9, c9, by omega, by go_num, rfl, Lib.hid hLL, by omega, HO9, hBf⟩
        case measure => simp [intOf]; omega
      · have hlk : x.locked = true := by rcases hl : x.locked with _ | _; · rw [hl] at hhb; cases hhb
                                         · rfl
        have hby : x.lock.by_ = t := by rw [hlk] at hhb; simpa using hhb
        have HEQ : Hid (f x = keepF ⟨x.key, if yes then withF ⟨x.lock.at_, x.lock.drop, x.lock.data⟩ x.vers else x.vers, false, zeroL⟩) := by rw [HONE.out, free_mine hlk hby]; exact Lib.hid rfl
        rw [hlk] at k5
        clear HONE hhb hby hlk
        rcases yes with _ | _
        · simp only [Bool.false_eq_true, if_false] at HEQ
          obtain ⟨a0, a1, a2, a3, a4, a5, a6, a7, a8, a9, a10, a11⟩ := blk12 k5
          have df := fun i => k5.frozen i
          have k6 := freed_blk k5
          have hG6 : Below g y (ref8.freed y5 g) := freed_below hG5 (Nat.le_refl _)
          have hO6 : OwnVs (ref8.freed y5 g) y.heap.size (.slice A3 x.vers.length c3) x.vers := own_vs_keep hO5 fun q hq => freed_heap y5 g q (show q ≠ g by omega)
          unfold ref8.freed at k6 hG6 hO6
          go_upto_region 10 with (fail)
          clear a0 a1 a2 a3 a4 a5 a6 a7 a8 a9 a10 a11 df k5 hO5 hG5
          generalize ((((((((((y5.setCell ⟨g, 2, none⟩ (.bool false)).setCell ⟨g, 3, none⟩ (.int .i64 0)).setCell ⟨g, 4, none⟩ (.int .i64 0)).setCell ⟨g, 5, none⟩ (.int .i64 0)).setCell ⟨g, 6, none⟩ (.int .i64 0)).setCell ⟨g, 7, none⟩ (.int .i64 0)).setCell ⟨g, 8, none⟩ (.int .i64 0)).setCell ⟨g, 9, none⟩ (.int .i64 0)).setCell ⟨g, 10, none⟩ (.bool false)).setCell ⟨g, 11, none⟩ (.string { data := #[] })) = y6 at *
          obtain ⟨a0, a1, a2, a3, a4, a5, a6, a7, a8, a9, a10, a11⟩ := blk12 k6
          have KP := Lib.hid (show Calls Try.prog 41 #[.slice A' m c', .agg #[.string x.key, .slice A3 x.vers.length c3, .bool false, .int .i64 0, .int .i64 0, .int .i64 0, .int .i64 0, .int .i64 0, .int .i64 0, .int .i64 0, .bool false, .string { data := #[] }]] y6 (RetKeep y6 w1.heap.size w1.heap.size A' m c' ((cs.take j).filterMap f ++ (keepF (⟨x.key, x.vers, false, zeroL⟩ : CellL)).toList)) from keep_any A' m c' _ (⟨x.key, x.vers, false, zeroL⟩ : CellL) A3 c3 y6 w1.heap.size w1.heap.size (HOUT.out _ hG6).1 hm.out (hO6.vsIn.more (by omega)) (by omega) (Nat.le_refl _) (HOUT.out _ hG6).2.size)
          have hBY := (HOUT.out _ hG6).2
          clear hO6 hG6 HOUT
          go_wp2_with fail
          refine KP.out.mono ?_
          rintro e y9 ⟨A9, c9, rfl, hO9, hB9, _⟩
          have HN : Hid ((cs.take (j + 1)).filterMap f = (cs.take j).filterMap f ++ (keepF (⟨x.key, x.vers, false, zeroL⟩ : CellL)).toList) := by
            rw [HST.out, HEQ.out]
            exact Lib.hid rfl
          rw [← HN.out] at hO9 ⊢
          have hBf := hBY.trans hB9
          have HO9 := Lib.hid hO9
          have hlen : ((cs.take (j + 1)).filterMap f).length ≤ j + 1 := fm_len _ _ _
          generalize hLL : ((cs.take (j + 1)).filterMap f).length = ll at *
          clear hO9 KP a0 a1 a2 a3 a4 a5 a6 a7 a8 a9 a10 a11
          go_wp2_with fail
          go_roundw
          case rel => exact ⟨j + 1, ll, A9, c9, by omega, by go_num, rfl, Lib.hid hLL, by omega, HO9, hBf⟩
          case measure => simp [intOf]; omega
        · simp only [if_true] at HEQ
          have DCx := Lib.hid (fun w => DC.out x.lock w)
          obtain ⟨v, hv⟩ : ∃ v : VerL, v = ⟨x.lock.at_, x.lock.drop, x.lock.data⟩ := ⟨_, rfl⟩
          rw [← hv] at HEQ
          have HV : Hid (v = ⟨x.lock.at_, x.lock.drop, x.lock.data⟩) := hv
          clear hv
          have HS : Hid (∀ wq, Below y5.heap.size y5 wq → wq.cell? ⟨g, 0, none⟩ = some (.string x.key) ∧ wq.cell? ⟨g, 1, none⟩ = some (.slice A3 x.vers.length c3) ∧ wq.cell? ⟨g, 2, none⟩ = some (.bool true) ∧ wq.cell? ⟨g, 3, none⟩ = some (.int .i64 x.lock.by_.node) ∧ wq.cell? ⟨g, 4, none⟩ = some (.int .i64 x.lock.by_.life) ∧ wq.cell? ⟨g, 5, none⟩ = some (.int .i64 x.lock.by_.seq) ∧ wq.cell? ⟨g, 6, none⟩ = some (.int .i64 x.lock.by_.att) ∧ wq.cell? ⟨g, 7, none⟩ = some (.int .i64 x.lock.home) ∧ wq.cell? ⟨g, 8, none⟩ = some (.int .i64 x.lock.at_.wall) ∧ wq.cell? ⟨g, 9, none⟩ = some (.int .i64 x.lock.at_.tie) ∧ wq.cell? ⟨g, 10, none⟩ = some (.bool x.lock.drop) ∧ wq.cell? ⟨g, 11, none⟩ = some (.string x.lock.data)) := fun wq hq => blk12 (k5.below hq k5.lt)
          have hy5 : y.heap.size ≤ y5.heap.size := hG5.size
          have p0 : Below y5.heap.size y5 y5.drew := (Below.refl _ _).drew
          have HIN := Lib.hid (fun (wq : World) (hq : Below y5.heap.size y5 wq) => (show Calls Try.prog 45 #[.slice A3 x.vers.length c3, .agg #[.int .i64 x.lock.at_.wall, .int .i64 x.lock.at_.tie, .bool x.lock.drop, .string x.lock.data]] wq (RetIns wq y.heap.size A3 x.vers.length c3 (withF v x.vers)) from by
            have h := insert_any A3 x.vers.length c3 x.vers v wq y.heap.size (hO5.below hq) rfl hv1 HV2.out (by have := hq.size; omega)
            rw [HV.out] at h ⊢
            exact h))
          have K5 := Lib.hid k5
          have hg5 : g < y5.heap.size := k5.lt
          have hgy : g < y.heap.size := hyl
          clear k5 hO5
          go_upto_region 8 with (fail)
          refine tail.region (S := fun wq => wq.cell? ⟨g, 0, none⟩ = some (.string x.key) ∧ wq.cell? ⟨g, 1, none⟩ = some (.slice A3 x.vers.length c3) ∧ wq.cell? ⟨g, 2, none⟩ = some (.bool true) ∧ wq.cell? ⟨g, 3, none⟩ = some (.int .i64 x.lock.by_.node) ∧ wq.cell? ⟨g, 4, none⟩ = some (.int .i64 x.lock.by_.life) ∧ wq.cell? ⟨g, 5, none⟩ = some (.int .i64 x.lock.by_.seq) ∧ wq.cell? ⟨g, 6, none⟩ = some (.int .i64 x.lock.by_.att) ∧ wq.cell? ⟨g, 7, none⟩ = some (.int .i64 x.lock.home) ∧ wq.cell? ⟨g, 8, none⟩ = some (.int .i64 x.lock.at_.wall) ∧ wq.cell? ⟨g, 9, none⟩ = some (.int .i64 x.lock.at_.tie) ∧ wq.cell? ⟨g, 10, none⟩ = some (.bool x.lock.drop) ∧ wq.cell? ⟨g, 11, none⟩ = some (.string x.lock.data)) [7] (by kernel_rfl) (HS.out _ p0) (fun hHeld => ?_)
          refine tail.take (i := 0) (oi := { dst := some 24, op := .fieldAddr 45 (.tmp 9) 1, type := 0, pos := "mvcc.go:103", after := #[], guard := none }) (v := ?v_0_36) rfl (by kernel_rfl) (by kernel_rfl) (by kernel_rfl) (fun _ _ _ h => h) (Or.inl ⟨by rfl, ?y_0_36⟩) (by assumption) (by kernel_rfl) (by kernel_rfl) ?_
          case y_0_36 => (intro wq hSw; (try dsimp only at hSw); go_simp; first | done | with_reducible rfl)
          try simp only [Act.put, List.setIfInBounds_toArray, List.set_cons_zero, List.set_cons_succ]
          refine tail.take (i := 1) (oi := { dst := some 25, op := .load 43 (.tmp 24), type := 43, pos := "mvcc.go:103", after := #[{ on := 0, ground := .data }], guard := none }) (v := ?v_1_36) rfl (by kernel_rfl) (by kernel_rfl) (by kernel_rfl) (fun _ _ _ h => h) (Or.inl ⟨by rfl, ?y_1_36⟩) (by assumption) (by kernel_rfl) (by kernel_rfl) ?_
          case y_1_36 => (intro wq hSw; (try dsimp only at hSw); go_simp; first | done | with_reducible rfl)
          try simp only [Act.put, List.setIfInBounds_toArray, List.set_cons_zero, List.set_cons_succ]
          refine tail.take (i := 2) (oi := { dst := some 26, op := .fieldAddr 45 (.tmp 9) 3, type := 0, pos := "mvcc.go:103", after := #[], guard := none }) (v := ?v_2_36) rfl (by kernel_rfl) (by kernel_rfl) (by kernel_rfl) (fun _ _ _ h => h) (Or.inl ⟨by rfl, ?y_2_36⟩) (by assumption) (by kernel_rfl) (by kernel_rfl) ?_
          case y_2_36 => (intro wq hSw; (try dsimp only at hSw); go_simp; first | done | with_reducible rfl)
          try simp only [Act.put, List.setIfInBounds_toArray, List.set_cons_zero, List.set_cons_succ]
          refine tail.take (i := 3) (oi := { dst := some 27, op := .load 38 (.tmp 26), type := 38, pos := "mvcc.go:103", after := #[{ on := 2, ground := .data }], guard := none }) (v := ?v_3_36) rfl (by kernel_rfl) (by kernel_rfl) (by kernel_rfl) (fun _ _ _ h => h) (Or.inl ⟨by rfl, ?y_3_36⟩) (by assumption) (by kernel_rfl) (by kernel_rfl) ?_
          case y_3_36 => (intro wq hSw; (try dsimp only at hSw); go_simp; first | done | with_reducible rfl)
          try simp only [Act.put, List.setIfInBounds_toArray, List.set_cons_zero, List.set_cons_succ]
          refine tail.next (i := 4) (o := { dst := some 28, op := .call { callee := .value (.func 46), args := #[.tmp 27], argTypes := #[38] }, type := 47, pos := "mvcc.go:103", after := #[{ on := 3, ground := .data }], guard := none }) rfl (by kernel_rfl) (fun KQ hKQ => ?_)
          go_simp
          refine (DCx.out _).mono ?_
          rintro e z1 ⟨rfl, hZ1⟩
          have p1 := p0.trans (hZ1.mono p0.size)
          have r1 := HS.out _ p1
          go_wp2_with fail
          refine hKQ.out _ _ ?s_4 ?_
          case s_4 => exact .inr r1
          clear hKQ KQ
          try simp only [Act.put, List.setIfInBounds_toArray, List.set_cons_zero, List.set_cons_succ]
          refine tail.next (i := 5) (o := { dst := some 29, op := .call { callee := .value (.func 45), args := #[.tmp 25, .tmp 28], argTypes := #[43, 47] }, type := 43, pos := "mvcc.go:103", after := #[{ on := 1, ground := .data }, { on := 4, ground := .data }, { on := 4, ground := .chain }], guard := none }) rfl (by kernel_rfl) (fun KQ hKQ => ?_)
          go_simp
          refine (HIN.out _ p1).mono ?_
          rintro e z2 ⟨A6, c6, rfl, hO6, hZ2, _⟩
          have qz : Below y.heap.size y5 z2 := (p1.mono hy5).trans hZ2
          have kz := K5.out.below qz hgy
          have r2 : z2.cell? ⟨g, 0, none⟩ = some (.string x.key) ∧ z2.cell? ⟨g, 1, none⟩ = some (.slice A3 x.vers.length c3) ∧ z2.cell? ⟨g, 2, none⟩ = some (.bool true) ∧ z2.cell? ⟨g, 3, none⟩ = some (.int .i64 x.lock.by_.node) ∧ z2.cell? ⟨g, 4, none⟩ = some (.int .i64 x.lock.by_.life) ∧ z2.cell? ⟨g, 5, none⟩ = some (.int .i64 x.lock.by_.seq) ∧ z2.cell? ⟨g, 6, none⟩ = some (.int .i64 x.lock.by_.att) ∧ z2.cell? ⟨g, 7, none⟩ = some (.int .i64 x.lock.home) ∧ z2.cell? ⟨g, 8, none⟩ = some (.int .i64 x.lock.at_.wall) ∧ z2.cell? ⟨g, 9, none⟩ = some (.int .i64 x.lock.at_.tie) ∧ z2.cell? ⟨g, 10, none⟩ = some (.bool x.lock.drop) ∧ z2.cell? ⟨g, 11, none⟩ = some (.string x.lock.data) := blk12 kz
          obtain ⟨a0, a1, a2, a3, a4, a5, a6, a7, a8, a9, a10, a11⟩ := blk12 kz
          have df := fun i => kz.frozen i
          have hzl : z2.heap.size ≥ y5.heap.size := qz.size
          go_wp2_with fail
          refine hKQ.out _ _ ?s_5 ?_
          case s_5 => exact .inr r2
          clear hKQ KQ
          try simp only [Act.put, List.setIfInBounds_toArray, List.set_cons_zero, List.set_cons_succ]
          refine tail.take (i := 6) (oi := { dst := some 30, op := .fieldAddr 45 (.tmp 9) 1, type := 0, pos := "mvcc.go:103", after := #[{ on := 0, ground := .phase }, { on := 1, ground := .phase }, { on := 2, ground := .phase }, { on := 3, ground := .phase }, { on := 4, ground := .phase }, { on := 5, ground := .phase }], guard := none }) (v := ?v_6_36) rfl (by kernel_rfl) (by kernel_rfl) (by kernel_rfl) (fun _ _ _ h => h) (Or.inl ⟨by rfl, ?y_6_36⟩) (by assumption) (by kernel_rfl) (by kernel_rfl) ?_
          case y_6_36 => (intro wq hSw; (try dsimp only at hSw); go_simp; first | done | with_reducible rfl)
          try simp only [Act.put, List.setIfInBounds_toArray, List.set_cons_zero, List.set_cons_succ]
          refine tail.next (i := 7) (o := { dst := none, op := .store 43 (.tmp 30) (.tmp 29), type := 0, pos := "mvcc.go:103", after := #[{ on := 6, ground := .data }, { on := 5, ground := .data }, { on := 5, ground := .chain }, { on := 0, ground := .phase }, { on := 1, ground := .phase }, { on := 2, ground := .phase }, { on := 3, ground := .phase }, { on := 4, ground := .phase }, { on := 5, ground := .phase }], guard := none }) rfl (by kernel_rfl) (fun KQ hKQ => ?_)
          go_simp
          refine hKQ.out _ _ ?s_7 ?_
          case s_7 => exact .inl (by simp)
          clear hKQ KQ
          try simp only [Act.put, List.setIfInBounds_toArray, List.set_cons_zero, List.set_cons_succ]
          refine tail.done (by kernel_rfl) ?_ _
          have k7 : Blk 45 (z2.setCell ⟨g, 1, none⟩ (.slice A6 (withF v x.vers).length c6)) g [.string x.key, .slice A6 (withF v x.vers).length c6, .bool true, .int .i64 x.lock.by_.node, .int .i64 x.lock.by_.life, .int .i64 x.lock.by_.seq, .int .i64 x.lock.by_.att, .int .i64 x.lock.home, .int .i64 x.lock.at_.wall, .int .i64 x.lock.at_.tie, .bool x.lock.drop, .string x.lock.data] := kz.set_ 1 _
          have hG7 : Below g y (z2.setCell ⟨g, 1, none⟩ (.slice A6 (withF v x.vers).length c6)) := (hG5.trans (qz.mono (by omega))).setCell (p := ⟨g, 1, none⟩) (Nat.le_refl _) _
          have hO7 : OwnVs (z2.setCell ⟨g, 1, none⟩ (.slice A6 (withF v x.vers).length c6)) y.heap.size (.slice A6 (withF v x.vers).length c6) (withF v x.vers) := own_vs_keep hO6 fun q hq => Below.heap_setCell z2 ⟨g, 1, none⟩ _ q (show q ≠ g by omega)
          go_upto_region 9 with (fail)
          clear df a0 a1 a2 a3 a4 a5 a6 a7 a8 a9 a10 a11 kz qz hO6 K5 hG5 HS HIN DCx p0 HV
          generalize (z2.setCell ⟨g, 1, none⟩ (.slice A6 (withF v x.vers).length c6)) = y7 at *
          obtain ⟨a0, a1, a2, a3, a4, a5, a6, a7, a8, a9, a10, a11⟩ := blk12 k7
          have df := fun i => k7.frozen i
          have k8 := freed_blk k7
          have hG8 : Below g y (ref8.freed y7 g) := freed_below hG7 (Nat.le_refl _)
          have hO8 : OwnVs (ref8.freed y7 g) y.heap.size (.slice A6 (withF v x.vers).length c6) (withF v x.vers) := own_vs_keep hO7 fun q hq => freed_heap y7 g q (show q ≠ g by omega)
          unfold ref8.freed at k8 hG8 hO8
          go_upto_region 10 with (fail)
          clear a0 a1 a2 a3 a4 a5 a6 a7 a8 a9 a10 a11 df k7 hO7 hG7
          generalize ((((((((((y7.setCell ⟨g, 2, none⟩ (.bool false)).setCell ⟨g, 3, none⟩ (.int .i64 0)).setCell ⟨g, 4, none⟩ (.int .i64 0)).setCell ⟨g, 5, none⟩ (.int .i64 0)).setCell ⟨g, 6, none⟩ (.int .i64 0)).setCell ⟨g, 7, none⟩ (.int .i64 0)).setCell ⟨g, 8, none⟩ (.int .i64 0)).setCell ⟨g, 9, none⟩ (.int .i64 0)).setCell ⟨g, 10, none⟩ (.bool false)).setCell ⟨g, 11, none⟩ (.string { data := #[] })) = y8 at *
          obtain ⟨a0, a1, a2, a3, a4, a5, a6, a7, a8, a9, a10, a11⟩ := blk12 k8
          have KP := Lib.hid (show Calls Try.prog 41 #[.slice A' m c', .agg #[.string x.key, .slice A6 (withF v x.vers).length c6, .bool false, .int .i64 0, .int .i64 0, .int .i64 0, .int .i64 0, .int .i64 0, .int .i64 0, .int .i64 0, .bool false, .string { data := #[] }]] y8 (RetKeep y8 w1.heap.size w1.heap.size A' m c' ((cs.take j).filterMap f ++ (keepF (⟨x.key, withF v x.vers, false, zeroL⟩ : CellL)).toList)) from keep_any A' m c' _ (⟨x.key, withF v x.vers, false, zeroL⟩ : CellL) A6 c6 y8 w1.heap.size w1.heap.size (HOUT.out _ hG8).1 hm.out (hO8.vsIn.more (by omega)) (by omega) (Nat.le_refl _) (HOUT.out _ hG8).2.size)
          have hBY := (HOUT.out _ hG8).2
          clear hO8 hG8 HOUT
          go_wp2_with fail
          refine KP.out.mono ?_
          rintro e y9 ⟨A9, c9, rfl, hO9, hB9, _⟩
          have HN : Hid ((cs.take (j + 1)).filterMap f = (cs.take j).filterMap f ++ (keepF (⟨x.key, withF v x.vers, false, zeroL⟩ : CellL)).toList) := by
            rw [HST.out, HEQ.out]
            exact Lib.hid rfl
          rw [← HN.out] at hO9 ⊢
          have hBf := hBY.trans hB9
          have HO9 := Lib.hid hO9
          have hlen : ((cs.take (j + 1)).filterMap f).length ≤ j + 1 := fm_len _ _ _
          generalize hLL : ((cs.take (j + 1)).filterMap f).length = ll at *
          clear hO9 KP a0 a1 a2 a3 a4 a5 a6 a7 a8 a9 a10 a11
          go_wp2_with fail
          go_roundw
          case rel => exact ⟨j + 1, ll, A9, c9, by omega, by go_num, rfl, Lib.hid hLL, by omega, HO9, hBf⟩
          case measure => simp [intOf]; omega
    · obtain rfl : j = cs.length := by omega
      have hO1 := hO.out
      rw [List.take_length] at hO1 hm
      have HOf := Lib.hid (show RetCs w (cs.filterMap f) (.returned (.slice A' m c')) wr from by
        unfold RetCs
        rw [hm.out]
        exact ⟨A', c', rfl, (hO1.one (Nat.le_refl _)).more (by omega), hBw⟩)
      clear hO hO1 hm
      go_wp2_with fail
      go_ret
      exact HOf.out
end Go.Proofs.Ytlkhmpfdajefiaa.mvi
