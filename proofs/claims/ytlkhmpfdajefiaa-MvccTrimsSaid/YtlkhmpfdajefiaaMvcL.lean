/- What the program's Lock (mvcc) comes to. Conditions: few cells, few versions, cells that may be. -/
import Derived.Test.YtlkhmpfdajefiaaMvcS
import Derived.Test.YtlkhmpfdajefiaaJoin0
import Derived.Deep.CutBlock
namespace Go.Proofs.Ytlkhmpfdajefiaa.mvi
open Go Go.RowKit Go.Proofs.Ytlkhmpfdajefiaa.kit Go.Proofs.Ytlkhmpfdajefiaa.nums Go.Proofs.Ytlkhmpfdajefiaa.st Go.Proofs.Ytlkhmpfdajefiaa.mv Go.Proofs.Ytlkhmpfdajefiaa.ref8 Go.Proofs.Ytlkhmpfdajefiaa.ins
set_option linter.unusedVariables false

theorem cells_one {cs : List CellL} {svs : List Value} {w : World} {vb : Nat} (h : ∀ (j : Nat) (x : CellL) (sv : Value), cs[j]? = some x → svs[j]? = some sv → VsIn w vb sv x.vers) : ∀ u ∈ (cs.zip svs).flatMap (fun p => cellC p.1 p.2), u.oneCell' = true := fun u hu => by
  obtain ⟨p, hp, hu'⟩ := List.mem_flatMap.1 hu
  obtain ⟨j, hj⟩ := List.mem_iff_getElem?.1 hp
  obtain ⟨hx, hs⟩ := List.getElem?_zip_eq_some.1 hj
  obtain ⟨A1, c1, e1, _⟩ := h j p.1 p.2 hx hs
  rw [e1] at hu'
  exact cell_one _ _ _ _ u hu'
/-- A cell put into a row of cells. -/
theorem cells_insert (A : Option Addr) (n c i : Nat) (cs : List CellL) (x : CellL) (As : Option Addr) (cv : Nat) (w : World) (base vb b : Nat) (h : OwnCs2 w base vb (.slice A n c) cs) (hn : cs.length = n) (hi : i ≤ n) (hV : VsIn w vb (.slice As x.vers.length cv) x.vers) (hU : Blk 45 w b (cellC x (.slice As x.vers.length cv))) (hne : Value.ownBlock (.slice A n c) ≠ some b) (hb : n ≤ 1000000) (hbase : base ≤ w.heap.size) :
    Calls Try.prog 48 #[.slice A n c, .int .i64 i, .slice (some ⟨b, 0, none⟩) 1 1] w fun e w' => ∃ A' c', e = .returned (.slice A' (n + 1) c') ∧ OwnCs2 w' base vb (.slice A' (n + 1) c') (cs.take i ++ x :: cs.drop i) ∧ Below base w w' ∧ w.grownBy w' (Value.ownBlock (.slice A n c)) := by
  have hblk := fun q hq => (h.block (q := q) hq)
  obtain ⟨svs, h1, h2, h3⟩ := h
  rw [hn] at h2
  refine (insC_any A n c i _ (cellC x (.slice As x.vers.length cv)) w base b h2 hi (cells_one h3) rfl (cell_one x As _ cv) hU hne hb hbase).mono ?_
  rintro e w' ⟨A', c', rfl, hO, hB, hG⟩
  have hkeep : ∀ sv' vs, VsIn w vb sv' vs → VsIn w' vb sv' vs := fun sv' vs hvs => hvs.keep fun g cur hb hg => hG.block g (lt_of_block hg) (fun he => by
    obtain ⟨_, cur', hq⟩ := hblk g he.symm
    rw [hg] at hq
    simp only [Option.some.injEq, Obj.cells.injEq] at hq
    exact types_apart hq.2.1.symm)
  have hlen : (cs.take i ++ x :: cs.drop i).length = n + 1 := by simp only [List.length_append, List.length_cons, List.length_take, List.length_drop]; omega
  refine ⟨A', c', rfl, ⟨svs.take i ++ (.slice As x.vers.length cv) :: svs.drop i, by simp only [List.length_append, List.length_cons, List.length_take, List.length_drop]; omega, ?_, fun j y sv hy hs => ?_⟩, hB, hG⟩
  · rw [hlen, List.zip_append (by simp only [List.length_take]; omega), List.zip_cons_cons, zip_take, zip_drop, List.flatMap_append, List.flatMap_cons, row_take (fun p : CellL × Value => cellC p.1 p.2) 12 pair_len, row_drop (fun p : CellL × Value => cellC p.1 p.2) 12 pair_len, ← List.append_assoc]
    exact hO
  · by_cases hj : j < i
    · rw [List.getElem?_append_left (by rw [List.length_take]; omega), List.getElem?_take, if_pos hj] at hy hs
      exact hkeep _ _ (h3 j y sv hy hs)
    · rw [List.getElem?_append_right (by rw [List.length_take]; omega), List.length_take] at hy hs
      rw [Nat.min_eq_left (by omega)] at hy hs
      rcases hd : j - i with _ | q
      · rw [hd] at hy hs
        simp only [List.getElem?_cons_zero, Option.some.injEq] at hy hs
        subst hy hs
        exact hkeep _ _ hV
      · rw [hd] at hy hs
        simp only [List.getElem?_cons_succ, List.getElem?_drop] at hy hs
        exact hkeep _ _ (h3 _ y sv hy hs)
/-- 'make([]api.Cell, 0, c)'. -/
theorem wpList_make_cells {w : World} {ops : Array Oper} {rest : List Oper} {o : Oper} {a : Act} {Q : Exit → Act → World → Prop} (hgd : o.guard = none) (x y : Operand) (ho : o.op = Op.makeSlice 31 x y) (kl kc : IntKind) (C : Int) (n : Nat) (hx : a.eval x = .int kl 0) (hy : a.eval y = .int kc C) (hC : C = (n : Int)) (hn : n ≤ 1000000) (base vb : Nat) (hbase : base ≤ w.heap.size)
    (h : ∀ g w', OwnCs2 w' base vb (.slice (some ⟨g, 0, none⟩) 0 n) [] → Below w.heap.size w w' → wpList Try.prog ops Q rest (a.put o.dst (.slice (some ⟨g, 0, none⟩) 0 n)) w') : wpList Try.prog ops Q (o :: rest) a w := by
  refine wpList_plain hgd fun K hK => ?_
  obtain ⟨i, hi', hz0, hz1, hz2⟩ := info_parts infoC
  obtain ⟨w', hr, hO, hG⟩ := run_make_own (P := Try.prog) w base 31 45 i _ 12 Try.underlying31 hi' hz0 hz1 kl kc n (by rw [hz2]; omega) (by unfold maxLen; omega) hbase
  subst hC
  unfold Oper.wp
  simp [execOp, ho, hx, hy, hr, Result.andThen]
  exact hK _ _ (h _ w' ⟨[], rfl, hO, fun j x sv hx => by cases hx⟩ ((Below.refl w.heap.size w).grown hG (Nat.le_refl _) (fun q hq => by cases hq)))
theorem own2_vs_keep {w w' : World} {base vb : Nat} {v : Value} {cs : List CellL} (h : OwnCs2 w base vb v cs) (hv : vb ≤ base) (hb : Below w.heap.size w w') : OwnCs2 w' base vb v cs := h.below hv hb
set_option maxRecDepth 100000 in
set_option maxHeartbeats 4000000 in
theorem lock_any (A : Option Addr) (n c : Nat) (cs : List CellL) (k : ByteArray) (dr : Bool) (da : ByteArray) (l : LockL) (w : World) (B : Nat) (hR : RdC w B A n cs) (hB : B ≤ w.heap.size) (hf : Few cs) (hok : okC cs) :
    Calls Try.prog 25 #[.slice A n c, .agg #[.string k, .bool dr, .string da], .agg #[.int .i64 l.by_.node, .int .i64 l.by_.life, .int .i64 l.by_.seq, .int .i64 l.by_.att, .int .i64 l.home, .int .i64 l.at_.wall, .int .i64 l.at_.tie, .bool l.drop, .string l.data]] w (RetCs w (lockF k (lockOf dr da l) cs)) := by
  obtain rfl : cs.length = n := hR.1
  have hn2 := hf.1
  have HR := Lib.hid (fun (wq : World) (h : Below w.heap.size w wq) (j : Nat) (hj : j < cs.length) => (hR.below (h.mono hB)).at_ hj)
  have HF := Lib.hid (fun (x : CellL) (hx : x ∈ cs) => hf.2 x hx)
  have HP := Lib.hid hok.1
  have HOKC := Lib.hid hok
  clear hR hf hok
  have hB0 : Hid (Below w.heap.size w ((w.alloc (.cells #[.string k, .bool dr, .string da] 36)).alloc (.cells #[.int .i64 l.by_.node, .int .i64 l.by_.life, .int .i64 l.by_.seq, .int .i64 l.by_.att, .int .i64 l.home, .int .i64 l.at_.wall, .int .i64 l.at_.tie, .bool l.drop, .string l.data] 38))) := ((Below.refl _ _).alloc (Nat.le_refl _) _).alloc (by simp) _
  have k0 : Hid (Blk 36 ((w.alloc (.cells #[.string k, .bool dr, .string da] 36)).alloc (.cells #[.int .i64 l.by_.node, .int .i64 l.by_.life, .int .i64 l.by_.seq, .int .i64 l.by_.att, .int .i64 l.home, .int .i64 l.at_.wall, .int .i64 l.at_.tie, .bool l.drop, .string l.data] 38)) w.heap.size [.string k, .bool dr, .string da]) := Blk.alloc (heap_alloc_new w _) _
  have k1 : Hid (Blk 38 ((w.alloc (.cells #[.string k, .bool dr, .string da] 36)).alloc (.cells #[.int .i64 l.by_.node, .int .i64 l.by_.life, .int .i64 l.by_.seq, .int .i64 l.by_.att, .int .i64 l.home, .int .i64 l.at_.wall, .int .i64 l.at_.tie, .bool l.drop, .string l.data] 38)) (w.heap.size + 1) [.int .i64 l.by_.node, .int .i64 l.by_.life, .int .i64 l.by_.seq, .int .i64 l.by_.att, .int .i64 l.home, .int .i64 l.at_.wall, .int .i64 l.at_.tie, .bool l.drop, .string l.data]) := by
    have := heap_alloc_new (w.alloc (.cells #[.string k, .bool dr, .string da] 36)) (.cells #[.int .i64 l.by_.node, .int .i64 l.by_.life, .int .i64 l.by_.seq, .int .i64 l.by_.att, .int .i64 l.home, .int .i64 l.at_.wall, .int .i64 l.at_.tie, .bool l.drop, .string l.data] 38)
    simpa [Blk, Hid] using this
  go_enter Try.func25, Try.ntmps25
  go_upto_region 1 with (fail)
  generalize ((w.alloc (.cells #[.string k, .bool dr, .string da] 36)).alloc (.cells #[.int .i64 l.by_.node, .int .i64 l.by_.life, .int .i64 l.by_.seq, .int .i64 l.by_.att, .int .i64 l.home, .int .i64 l.at_.wall, .int .i64 l.at_.tie, .bool l.drop, .string l.data] 38)) = w1 at *
  have hs1 : w.heap.size + 1 < w1.heap.size := k1.out.lt
  have k0' := k0.out
  have k1' := k1.out
  have hB12 := hB0.out
  clear k0 k1 hB0
  obtain ⟨t0, t1, t2⟩ := blk3 k0'
  obtain ⟨d0, d1, d2, d3, d4, d5, d6, d7, d8⟩ := blk9 k1'
  have df := fun i => k1'.frozen i
  go_wp2_with fail
  go_region
  have hBz : Below w.heap.size w (((w1.setCell ⟨w.heap.size + 1, 7, none⟩ (.bool dr)).setCell ⟨w.heap.size + 1, 8, none⟩ (.string da)).drew) := ((hB12.setCell (p := ⟨w.heap.size + 1, 7, none⟩) (show w.heap.size ≤ w.heap.size + 1 by omega) _).setCell (p := ⟨w.heap.size + 1, 8, none⟩) (show w.heap.size ≤ w.heap.size + 1 by omega) _).drew
  have k0z : Blk 36 (((w1.setCell ⟨w.heap.size + 1, 7, none⟩ (.bool dr)).setCell ⟨w.heap.size + 1, 8, none⟩ (.string da)).drew) w.heap.size [.string k, .bool dr, .string da] := (k0'.far (p := ⟨w.heap.size + 1, 7, none⟩) (show w.heap.size ≠ w.heap.size + 1 by omega) _).far (p := ⟨w.heap.size + 1, 8, none⟩) (show w.heap.size ≠ w.heap.size + 1 by omega) _
  have k1z : Blk 38 (((w1.setCell ⟨w.heap.size + 1, 7, none⟩ (.bool dr)).setCell ⟨w.heap.size + 1, 8, none⟩ (.string da)).drew) (w.heap.size + 1) [.int .i64 l.by_.node, .int .i64 l.by_.life, .int .i64 l.by_.seq, .int .i64 l.by_.att, .int .i64 l.home, .int .i64 l.at_.wall, .int .i64 l.at_.tie, .bool dr, .string da] := (k1'.set_ 7 (.bool dr)).set_ 8 (.string da)
  clear t0 t1 t2 d0 d1 d2 d3 d4 d5 d6 d7 d8 df k0' k1' hB12
  generalize ((w1.setCell ⟨w.heap.size + 1, 7, none⟩ (.bool dr)).setCell ⟨w.heap.size + 1, 8, none⟩ (.string da)).drew = wz at *
  obtain ⟨t0, t1, t2⟩ := blk3 k0z
  obtain ⟨d0, d1, d2, d3, d4, d5, d6, d7, d8⟩ := blk9 k1z
  have df := fun i => k1z.frozen i
  simp only [Exit.then]
  refine (‹∀ (a : Act) (z : World), Code.wp Try.prog _ _ a z → _›) _ _ ?_
  go_upto_if 19 with (fail)
  go_cut [19] from 200 (fun bv wx => bv = .bool dr ∧ Hid (Blk 38 wx (w.heap.size + 1) [.int .i64 l.by_.node, .int .i64 l.by_.life, .int .i64 l.by_.seq, .int .i64 l.by_.att, .int .i64 l.home, .int .i64 l.at_.wall, .int .i64 l.at_.tie, .bool dr, .string (if dr then noText else da)]) ∧ Hid (Blk 36 wx w.heap.size [.string k, .bool dr, .string da]) ∧ Below w.heap.size w wx)
  case first =>
    rcases dr with _ | _
    · go_wp2_with fail
      go_meet
      case rel => exact ⟨rfl, k1z, k0z, hBz⟩
    · go_wp2_with fail
      go_meet
      case rel => exact ⟨rfl, k1z.set_ 8 _, k0z.far (p := ⟨w.heap.size + 1, 8, none⟩) (show w.heap.size ≠ w.heap.size + 1 by omega) _, hBz.setCell (p := ⟨w.heap.size + 1, 8, none⟩) (show w.heap.size ≤ w.heap.size + 1 by omega) _⟩
  case rest =>
    obtain ⟨rfl, K1, K0, hB3⟩ := hcut
    clear t0 t1 t2 d0 d1 d2 d3 d4 d5 d6 d7 d8 df k0z k1z hBz
    obtain ⟨wo, hwo⟩ : ∃ wo, wo = wc := ⟨_, rfl⟩
    subst hwo
    have hlk1 : w.heap.size + 1 < wo.heap.size := K1.out.lt
    have hBo : wo.heap.size ≤ wo.heap.size := Nat.le_refl _
    go_wp2_with (with_reducible refine wpList_make_cells rfl (.const (.int .i64 0)) (.tmp 23) rfl .i64 .i64 _ (cs.length + 1) rfl rfl ?hC ?hn wo.heap.size wo.heap.size hBo ?_)
    case hC => simp
    case hn => omega
    intro gm wm hOm hBm
    have HOM := Lib.hid hOm
    clear hOm
    go_wp2_with fail
    go_loopw [7, 27] (fun ov iv wr => ∃ (j : Nat) (A' : Option Addr) (c' : Nat), j ≤ cs.length ∧ iv = .int .i64 j ∧ ov = .slice A' j c' ∧ Hid (OwnCs2 wr wo.heap.size wo.heap.size (.slice A' j c') (cs.take j)) ∧ Below wo.heap.size wo wr) (fun _ iv _ => cs.length - (intOf iv).toNat)
    case atStart => exact ⟨0, some ⟨gm, 0, none⟩, cs.length + 1, Nat.zero_le _, rfl, rfl, HOM, hBm⟩
    case round =>
      obtain ⟨j, A', c', hj, rfl, rfl, hO, hBr⟩ := hrel
      have hsr := hBr.size
      have hBw := hB3.trans (hBr.mono hB3.size)
      by_cases hlt : j < cs.length
      · obtain ⟨b, o, x, sv, rfl, hbB, hx, hS, hA⟩ := HR.out wr hBw j hlt
        have hv1 := HF.out x (List.mem_of_getElem? hx)
        obtain ⟨As, cv, rfl, hc1, hc2, hRv⟩ := hS
        obtain ⟨a0, a1, a2, a3, a4, a5, a6, a7, a8, a9, a10, a11⟩ := at12 hA
        have HST : Hid (cs.take (j + 1) = cs.take j ++ [x]) := by
          obtain ⟨hjl, rfl⟩ := List.getElem?_eq_some_iff.1 hx
          exact List.take_succ_eq_append_getElem hjl
        have hyw : Hid (∀ q, q < wr.heap.size → (wr.alloc (.cells #[.string x.key, .slice As x.vers.length cv, .bool x.locked, .int .i64 x.lock.by_.node, .int .i64 x.lock.by_.life, .int .i64 x.lock.by_.seq, .int .i64 x.lock.by_.att, .int .i64 x.lock.home, .int .i64 x.lock.at_.wall, .int .i64 x.lock.at_.tie, .bool x.lock.drop, .string x.lock.data] 45)).heap[q]? = wr.heap[q]?) := fun q hq => heap_alloc_old wr _ hq
        have kx : Blk 45 (wr.alloc (.cells #[.string x.key, .slice As x.vers.length cv, .bool x.locked, .int .i64 x.lock.by_.node, .int .i64 x.lock.by_.life, .int .i64 x.lock.by_.seq, .int .i64 x.lock.by_.att, .int .i64 x.lock.home, .int .i64 x.lock.at_.wall, .int .i64 x.lock.at_.tie, .bool x.lock.drop, .string x.lock.data] 45)) wr.heap.size [.string x.key, .slice As x.vers.length cv, .bool x.locked, .int .i64 x.lock.by_.node, .int .i64 x.lock.by_.life, .int .i64 x.lock.by_.seq, .int .i64 x.lock.by_.att, .int .i64 x.lock.home, .int .i64 x.lock.at_.wall, .int .i64 x.lock.at_.tie, .bool x.lock.drop, .string x.lock.data] := heap_alloc_new wr _
        have hBx := hBr.alloc hsr (.cells #[.string x.key, .slice As x.vers.length cv, .bool x.locked, .int .i64 x.lock.by_.node, .int .i64 x.lock.by_.life, .int .i64 x.lock.by_.seq, .int .i64 x.lock.by_.att, .int .i64 x.lock.home, .int .i64 x.lock.at_.wall, .int .i64 x.lock.at_.tie, .bool x.lock.drop, .string x.lock.data] 45)
        have hRv2 := hRv.below ((Below.refl B wr).alloc (show B ≤ wr.heap.size by have := hB3.size; omega) (.cells #[.string x.key, .slice As x.vers.length cv, .bool x.locked, .int .i64 x.lock.by_.node, .int .i64 x.lock.by_.life, .int .i64 x.lock.by_.seq, .int .i64 x.lock.by_.att, .int .i64 x.lock.home, .int .i64 x.lock.at_.wall, .int .i64 x.lock.at_.tie, .bool x.lock.drop, .string x.lock.data] 45))
        clear hA hx hRv
        go_upto_region 8 with (fail)
        clear a0 a1 a2 a3 a4 a5 a6 a7 a8 a9 a10 a11
        obtain ⟨g, hg⟩ : ∃ g, wr.heap.size = g := ⟨_, rfl⟩
        rw [hg] at kx hyw ⊢
        have hgw : wo.heap.size ≤ g := by omega
        generalize (wr.alloc (.cells #[.string x.key, .slice As x.vers.length cv, .bool x.locked, .int .i64 x.lock.by_.node, .int .i64 x.lock.by_.life, .int .i64 x.lock.by_.seq, .int .i64 x.lock.by_.att, .int .i64 x.lock.home, .int .i64 x.lock.at_.wall, .int .i64 x.lock.at_.tie, .bool x.lock.drop, .string x.lock.data] 45)) = y at *
        have hyl := kx.lt
        obtain ⟨a0, a1, a2, a3, a4, a5, a6, a7, a8, a9, a10, a11⟩ := blk12 kx
        have OW := Lib.hid (own_any As x.vers.length cv x.vers y B hRv2 hv1)
        go_wp2_with fail
        refine OW.out.mono ?_
        rintro e y3 ⟨A3, c3, rfl, hO3, hY3⟩
        have hG3 : Below g y y3 := hY3.mono (by omega)
        have k3 := kx.below hY3 hyl
        clear a0 a1 a2 a3 a4 a5 a6 a7 a8 a9 a10 a11 OW kx hRv2
        obtain ⟨a0, a1, a2, a3, a4, a5, a6, a7, a8, a9, a10, a11⟩ := blk12 k3
        have df := fun i => k3.frozen i
        have k4 : Blk 45 (y3.setCell ⟨g, 1, none⟩ (.slice A3 x.vers.length c3)) g [.string x.key, .slice A3 x.vers.length c3, .bool x.locked, .int .i64 x.lock.by_.node, .int .i64 x.lock.by_.life, .int .i64 x.lock.by_.seq, .int .i64 x.lock.by_.att, .int .i64 x.lock.home, .int .i64 x.lock.at_.wall, .int .i64 x.lock.at_.tie, .bool x.lock.drop, .string x.lock.data] := k3.set_ 1 _
        have hG4 : Below g y (y3.setCell ⟨g, 1, none⟩ (.slice A3 x.vers.length c3)) := hG3.setCell (p := ⟨g, 1, none⟩) (Nat.le_refl _) _
        have hO4 : OwnVs (y3.setCell ⟨g, 1, none⟩ (.slice A3 x.vers.length c3)) y.heap.size (.slice A3 x.vers.length c3) x.vers := own_vs_keep hO3 fun q hq => Below.heap_setCell y3 ⟨g, 1, none⟩ _ q (show q ≠ g by omega)
        go_upto_region 9 with (fail)
        clear a0 a1 a2 a3 a4 a5 a6 a7 a8 a9 a10 a11 df k3 hO3 hG3 hY3
        generalize (y3.setCell ⟨g, 1, none⟩ (.slice A3 x.vers.length c3)) = y4 at *
        have hOut : OwnCs2 y4 wo.heap.size wo.heap.size (.slice A' j c') (cs.take j) := hO.out.keep (Nat.le_refl _) fun q _ hq2 => (hG4.block q (by omega)).trans (hyw.out q (by omega))
        have hB4 : Below wo.heap.size wo y4 := hBx.trans (hG4.mono hgw)
        obtain ⟨a0, a1, a2, a3, a4, a5, a6, a7, a8, a9, a10, a11⟩ := blk12 k4
        have hy4 : y.heap.size ≤ y4.heap.size := hG4.size
        have hVx : VsIn y4 wo.heap.size (.slice A3 x.vers.length c3) x.vers := hO4.vsIn.more (by omega)
        have hal := (Below.refl y4.heap.size y4).alloc (Nat.le_refl _) (.cells #[.string x.key, .slice A3 x.vers.length c3, .bool x.locked, .int .i64 x.lock.by_.node, .int .i64 x.lock.by_.life, .int .i64 x.lock.by_.seq, .int .i64 x.lock.by_.att, .int .i64 x.lock.home, .int .i64 x.lock.at_.wall, .int .i64 x.lock.at_.tie, .bool x.lock.drop, .string x.lock.data] 45)
        have hOn := hOut.below (Nat.le_refl _) hal
        have hVn := hVx.below hal
        have hBn := hB4.alloc hB4.size (.cells #[.string x.key, .slice A3 x.vers.length c3, .bool x.locked, .int .i64 x.lock.by_.node, .int .i64 x.lock.by_.life, .int .i64 x.lock.by_.seq, .int .i64 x.lock.by_.att, .int .i64 x.lock.home, .int .i64 x.lock.at_.wall, .int .i64 x.lock.at_.tie, .bool x.lock.drop, .string x.lock.data] 45)
        have hAn : At (y4.alloc (.cells #[.string x.key, .slice A3 x.vers.length c3, .bool x.locked, .int .i64 x.lock.by_.node, .int .i64 x.lock.by_.life, .int .i64 x.lock.by_.seq, .int .i64 x.lock.by_.att, .int .i64 x.lock.home, .int .i64 x.lock.at_.wall, .int .i64 x.lock.at_.tie, .bool x.lock.drop, .string x.lock.data] 45)) y4.heap.size 0 (cellC x (.slice A3 x.vers.length c3)) := at_new y4 45 _
        have hbx : wo.heap.size ≤ (y4.alloc (.cells #[.string x.key, .slice A3 x.vers.length c3, .bool x.locked, .int .i64 x.lock.by_.node, .int .i64 x.lock.by_.life, .int .i64 x.lock.by_.seq, .int .i64 x.lock.by_.att, .int .i64 x.lock.home, .int .i64 x.lock.at_.wall, .int .i64 x.lock.at_.tie, .bool x.lock.drop, .string x.lock.data] 45)).heap.size := hBn.size
        have hTl : (cs.take j).length = j := by rw [List.length_take]; omega
        clear hO hyw k4 hO4 hOut hVx hal
        go_wp2_with (at_builtin; with_reducible refine wpList_append_cell2 rfl (.tmp 35) (.tmp 37) rfl wo.heap.size wo.heap.size A' j c' (cs.take j) hTl rfl hOn (y4.heap.size + 1) y4.heap.size 0 1 x (.slice A3 x.vers.length c3) rfl (Nat.lt_succ_self _) hAn hVn ?hb1 hbx ?_)
        case hb1 => omega
        intro A5 c5 w5 hO5 hB5 _
        rw [← HST.out] at hO5
        have HO5 := Lib.hid hO5
        have hB15 := hBn.trans hB5
        clear hO5 a0 a1 a2 a3 a4 a5 a6 a7 a8 a9 a10 a11
        go_wp2_with fail
        go_roundw
        case rel => exact ⟨j + 1, A5, c5, by omega, by go_num, rfl, HO5, hB15⟩
        case measure => simp [intOf]; omega
      · obtain rfl : j = cs.length := by omega
        have hO1 := hO.out
        rw [List.take_length] at hO1
        have HO1 := Lib.hid hO1
        clear hO hO1 HOM hBm HR HF
        have hk0 := K0.out.below hBr (by omega)
        obtain ⟨t0, t1, t2⟩ := blk3 hk0
        have FI := Lib.hid (find_any A' cs.length c' cs k wr wr.heap.size (by
          obtain ⟨A2, c2, e, _, _, hR⟩ := (HO1.out.one (Nat.le_refl _)).rd
          simp only [Value.slice.injEq] at e
          obtain ⟨rfl, _, rfl⟩ := e
          exact hR) (Nat.le_refl _) (by omega) HP.out)
        go_wp2_with fail
        refine FI.out.mono ?_
        rintro e w4 ⟨p, bb, rfl, hPB, hB4⟩
        have HPB := Lib.hid hPB
        have hpn : p ≤ cs.length := hPB.1.1
        have hBq := hBr.trans (hB4.mono hsr)
        have hO4 := HO1.out.below (Nat.le_refl _) hB4
        clear hPB FI t0 t1 t2 HO1
        have hk04 := K0.out.below hBq (by omega)
        have hk14 := K1.out.below hBq (by omega)
        obtain ⟨t0, t1, t2⟩ := blk3 hk04
        have hBw4 := hB3.trans (hBq.mono hB3.size)
        have HK1 := Lib.hid hk14
        have HO4 := Lib.hid hO4
        clear hO4 hk14 hBr hBq
        have HBW := Lib.hid hBw4
        have HLT : Hid (∀ q, Value.ownBlock (.slice A' cs.length c') = some q → q < w4.heap.size) := fun q hq => by
          obtain ⟨_, cur, hg⟩ := HO4.out.block hq
          exact lt_of_block hg
        have hw4 : wo.heap.size ≤ w4.heap.size := Nat.le_trans hsr hB4.size
        have hcl : w.heap.size + 1 < w4.heap.size := by omega
        have hwo1 : w.heap.size + 1 < wo.heap.size := hlk1
        clear hk0 hB4
        go_upto_if 48 with (fail)
        go_cut [7] from 200 (fun ov wx => ∃ (A2 : Option Addr) (c2 n' : Nat) (ds : List CellL) (x : CellL), ov = .slice A2 n' c2 ∧ p < n' ∧ n' ≤ 1001 ∧ Hid (ds.length = n') ∧ Hid (ds[p]? = some x) ∧ Hid (ds.set p { x with locked := true, lock := lockOf dr da l } = lockF k (lockOf dr da l) cs) ∧ Hid (OwnCs2 wx wo.heap.size wo.heap.size (.slice A2 n' c2) ds) ∧ Hid (Blk 38 wx (w.heap.size + 1) [.int .i64 l.by_.node, .int .i64 l.by_.life, .int .i64 l.by_.seq, .int .i64 l.by_.att, .int .i64 l.home, .int .i64 l.at_.wall, .int .i64 l.at_.tie, .bool dr, .string (if dr then noText else da)]) ∧ Below w.heap.size w wx)
        case first =>
          rcases bb with _ | _
          · have hne := posB_ne HP.out HPB.out
            have HL := Lib.hid (lock_new k (lockOf dr da l) cs hne p hpn HPB.out.1.2.1 (fun x hx => HPB.out.1.2.2 p x (Nat.le_refl _) hx))
            have e1 : cs.take p ++ (⟨k, [], false, zeroL⟩ : CellL) :: cs.drop p = (cs.take p ++ [(⟨k, [], false, zeroL⟩ : CellL)]) ++ cs.drop p := by simp
            have HLEN : Hid ((cs.take p ++ (⟨k, [], false, zeroL⟩ : CellL) :: cs.drop p).length = cs.length + 1) := by simp only [Hid, List.length_append, List.length_cons, List.length_take, List.length_drop]; omega
            have HGET : Hid ((cs.take p ++ (⟨k, [], false, zeroL⟩ : CellL) :: cs.drop p)[p]? = some (⟨k, [], false, zeroL⟩ : CellL)) := by rw [e1]; exact lock_get k cs p hpn zeroL
            have HSET : Hid ((cs.take p ++ (⟨k, [], false, zeroL⟩ : CellL) :: cs.drop p).set p { (⟨k, [], false, zeroL⟩ : CellL) with locked := true, lock := lockOf dr da l } = lockF k (lockOf dr da l) cs) := by rw [e1]; exact (lock_put k (lockOf dr da l) cs p hpn zeroL).trans HL.out.symm
            have hU : Blk 45 (w4.alloc (.cells #[.string k, .slice none 0 0, .bool false, .int .i64 0, .int .i64 0, .int .i64 0, .int .i64 0, .int .i64 0, .int .i64 0, .int .i64 0, .bool false, .string { data := #[] }] 45)) w4.heap.size (cellC (⟨k, [], false, zeroL⟩ : CellL) (.slice none 0 0)) := heap_alloc_new w4 _
            have IN := Lib.hid (cells_insert A' cs.length c' p cs (⟨k, [], false, zeroL⟩ : CellL) none 0 (w4.alloc (.cells #[.string k, .slice none 0 0, .bool false, .int .i64 0, .int .i64 0, .int .i64 0, .int .i64 0, .int .i64 0, .int .i64 0, .int .i64 0, .bool false, .string { data := #[] }] 45)) wo.heap.size wo.heap.size w4.heap.size (HO4.out.below (Nat.le_refl _) ((Below.refl _ _).alloc (Nat.le_refl _) _)) rfl hpn (VsIn.nil _ _ none (Nat.zero_le _)) hU (fun e => by have := HLT.out _ e; omega) (by omega) (by simp; omega))
            have HKN := Lib.hid (HK1.out.alloc (.cells #[.string k, .slice none 0 0, .bool false, .int .i64 0, .int .i64 0, .int .i64 0, .int .i64 0, .int .i64 0, .int .i64 0, .int .i64 0, .bool false, .string { data := #[] }] 45))
            have HBN := Lib.hid (HBW.out.alloc HBW.out.size (.cells #[.string k, .slice none 0 0, .bool false, .int .i64 0, .int .i64 0, .int .i64 0, .int .i64 0, .int .i64 0, .int .i64 0, .int .i64 0, .bool false, .string { data := #[] }] 45))
            clear hne HL e1 hU HPB
            go_wp2_with fail
            refine IN.out.mono ?_
            rintro e w5 ⟨A2, c2, rfl, hO5, hB5, _⟩
            have HO5 := Lib.hid hO5
            have HK5 := Lib.hid (HKN.out.below hB5 hwo1)
            have HB5 := Lib.hid (HBN.out.trans (hB5.mono (by omega)))
            clear hO5 IN hB5
            go_wp2_with fail
            go_meet
            case rel => exact ⟨A2, c2, cs.length + 1, _, _, rfl, by omega, by omega, HLEN, HGET, HSET, HO5, HK5, HB5.out⟩
          · obtain ⟨x, hx, hk, _⟩ := posB_found HOKC.out HPB.out
            have hp := (List.getElem?_eq_some_iff.1 hx).1
            have HL := Lib.hid (lock_at k (lockOf dr da l) cs HP.out p x hx hk).symm
            have HX := Lib.hid hx
            clear hx hk HPB
            go_wp2_with fail
            go_meet
            case rel => exact ⟨A', c', cs.length, cs, x, rfl, hp, by omega, Lib.hid rfl, HX, HL, HO4, HK1, HBW.out⟩
        case rest =>
          obtain ⟨A2, c2, n', ds, x, rfl, hi, hn', HLEN, HGET, HSET, HO, HKL, hB⟩ := hcut
          have hO := HO.out
          clear HO HO4 HK1 HBW hBw4 t0 t1 t2 hk04 HLT HPB
          obtain ⟨wz, hwz⟩ : ∃ wz, wz = wc := ⟨_, rfl⟩
          subst hwz
          obtain ⟨g, rfl, hg1, hg2⟩ := hO.form (by omega)
          obtain ⟨sv, hV, hA⟩ := hO.cell_at HLEN.out HGET.out
          obtain ⟨a0, a1, a2, a3, a4, a5, a6, a7, a8, a9, a10, a11⟩ := at12 hA
          have df := fun j => hO.frozen j
          have hW : putLock wz g (p * 12) (lockOf dr da l) = ((((((((((wz.setCell ⟨g, p * 12 + 2, none⟩ (.bool true)).setCell ⟨g, p * 12 + 3, none⟩ (.int .i64 l.by_.node)).setCell ⟨g, p * 12 + 4, none⟩ (.int .i64 l.by_.life)).setCell ⟨g, p * 12 + 5, none⟩ (.int .i64 l.by_.seq)).setCell ⟨g, p * 12 + 6, none⟩ (.int .i64 l.by_.att)).setCell ⟨g, p * 12 + 7, none⟩ (.int .i64 l.home)).setCell ⟨g, p * 12 + 8, none⟩ (.int .i64 l.at_.wall)).setCell ⟨g, p * 12 + 9, none⟩ (.int .i64 l.at_.tie)).setCell ⟨g, p * 12 + 10, none⟩ (.bool dr)).setCell ⟨g, p * 12 + 11, none⟩ (.string (if dr then noText else da))) := by unfold putLock lockOf; dsimp only
          have hPL := hO.locked HLEN.out HGET.out (lockOf dr da l)
          have hPb := putLock_below (o := p * 12) (lockOf dr da l) hB (show w.heap.size ≤ g by omega)
          rw [hW] at hPL hPb
          rw [HSET.out] at hPL
          have hF := own_drew ((hPL.one (Nat.le_refl _)).more (base' := w.heap.size) (by omega))
          have hBf := hPb.drew
          have HLN : Hid ((lockF k (lockOf dr da l) cs).length = n') := by rw [← HSET.out, List.length_set]; exact HLEN
          generalize hdd : (if dr = true then noText else da) = dd at *
          generalize hlf : lockF k (lockOf dr da l) cs = lf at *
          obtain ⟨d0, d1, d2, d3, d4, d5, d6, d7, d8⟩ := blk9 HKL.out
          have hne : ¬ w.heap.size + 1 = g := by omega
          have hne' : ¬ g = w.heap.size + 1 := by omega
          clear hO hV hA HSET hB hPL hPb hW hdd hlf
          go_upto_region 14 with (fail)
          go_region
          generalize (((((((((((wz.setCell ⟨g, p * 12 + 2, none⟩ (.bool true)).setCell ⟨g, p * 12 + 3, none⟩ (.int .i64 l.by_.node)).setCell ⟨g, p * 12 + 4, none⟩ (.int .i64 l.by_.life)).setCell ⟨g, p * 12 + 5, none⟩ (.int .i64 l.by_.seq)).setCell ⟨g, p * 12 + 6, none⟩ (.int .i64 l.by_.att)).setCell ⟨g, p * 12 + 7, none⟩ (.int .i64 l.home)).setCell ⟨g, p * 12 + 8, none⟩ (.int .i64 l.at_.wall)).setCell ⟨g, p * 12 + 9, none⟩ (.int .i64 l.at_.tie)).setCell ⟨g, p * 12 + 10, none⟩ (.bool dr)).setCell ⟨g, p * 12 + 11, none⟩ (.string dd)).drew) = wf at *
          simp only [Exit.then]
          refine (‹∀ (a : Act) (z : World), Code.wp Try.prog _ _ a z → _›) _ _ ?_
          go_wp2_with fail
          go_ret
          unfold RetCs
          rw [HLN.out]
          exact ⟨_, c2, rfl, hF, hBf⟩
end Go.Proofs.Ytlkhmpfdajefiaa.mvi
