/- What the program's Trim (mvcc) comes to. Conditions: few cells, few versions, cells that may be. -/
import Derived.Test.YtlkhmpfdajefiaaMvcJ
import Derived.Test.YtlkhmpfdajefiaaRef8h
namespace Go.Proofs.Ytlkhmpfdajefiaa.mvi
open Go Go.RowKit Go.Proofs.Ytlkhmpfdajefiaa.kit Go.Proofs.Ytlkhmpfdajefiaa.nums Go.Proofs.Ytlkhmpfdajefiaa.st Go.Proofs.Ytlkhmpfdajefiaa.mv Go.Proofs.Ytlkhmpfdajefiaa.ref8 Go.Proofs.Ytlkhmpfdajefiaa.ins
set_option linter.unusedVariables false

theorem RdVs.sliced {w : World} {B n : Nat} {A : Option Addr} {vs : List VerL} (h : RdVs w B A n vs) {p m : Nat} (hp : p ≤ n) (hm : n ≤ m) :
    ∃ A', Go.sliced A p n m 4 = .slice A' (n - p) (m - p) ∧ RdVs w B A' (n - p) (vs.drop p) := by
  refine ⟨_, rfl, by rw [List.length_drop, h.1], fun h0 => ?_⟩
  obtain ⟨b, o, rfl, hb, hc⟩ := h.2 (by omega)
  rw [if_neg (by omega)]
  refine ⟨b, o + p * 4, ?_, hb, fun j x hx => ?_⟩
  · by_cases h1 : p = 0
    · subst h1; simp [Addr.add]
    · have h4 : ¬ p * 4 = 0 := by omega
      simp [Addr.add, h4]
  · rw [List.getElem?_drop] at hx
    have := hc _ x hx
    rw [show o + (p + j) * 4 = o + p * 4 + j * 4 by omega] at this
    exact this
/-- 's[lo:]' on versions that are read. -/
theorem wpList_versR_from {w : World} {ops : Array Oper} {rest : List Oper} {o : Oper} {a : Act} {Q : Exit → Act → World → Prop} (hgd : o.guard = none) (s lo : Operand) (ho : o.op = .slice 43 s (some lo) none none)
    (A : Option Addr) (n c B : Nat) (vs : List VerL) (hs : a.eval s = .slice A n c) (hR : RdVs w B A n vs) (kl : IntKind) (L : Int) (p : Nat) (hlo : a.eval lo = .int kl L) (hL : L = (p : Int)) (hpn : p ≤ n) (hnc : n ≤ c)
    (h : ∀ A' c', RdVs w B A' (n - p) (vs.drop p) → wpList Try.prog ops Q rest (a.put o.dst (.slice A' (n - p) c')) w) : wpList Try.prog ops Q (o :: rest) a w := by
  refine wpList_plain hgd fun K hK => ?_
  obtain ⟨i, hi', hz0, hz1, hz2⟩ := info_parts infoVr
  obtain ⟨A', e1, hR'⟩ := RdVs.sliced hR hpn hnc
  have he := elem_k (P := Try.prog) Try.underlying43
  have hrun := run_slice_l (P := Try.prog) w 43 A n c (by rw [he]; exact Try.underlying43) kl L (by omega) (by omega)
  rw [he, run_sizeOf_four hi' hz1, hL, Int.toNat_natCast] at hrun
  have hat := run_sliceAt_slice (P := Try.prog) w 43 (.slice A n c) (some (.int kl L)) none none (by rw [he]; exact Try.underlying43)
  rw [hL] at hat
  unfold Oper.wp execOp
  simp only [ho, Option.map_some, Option.map_none, hs, hlo, hL, Sem.run_bind, hat, hrun, Result.andThen_ok, Sem.run_pure, e1]
  exact hK _ _ (h A' _ hR')
theorem rch_cut {t : StL} {vs : List VerL} {k : Nat} (h : Rch vs t k) : cutF t vs = if k = 0 then vs else match vs[k - 1]? with | some u => if u.drop then vs.drop k else vs.drop (k - 1) | none => vs :=
  cut_from ⟨h.2.1, fun u hu => h.2.2 u (by rw [List.mem_iff_getElem?]; exact ⟨0, by rw [List.getElem?_drop, Nat.add_zero]; exact hu⟩)⟩ h.1
set_option maxRecDepth 100000 in
set_option maxHeartbeats 4000000 in
theorem trim_any (A : Option Addr) (n c : Nat) (cs : List CellL) (t : StL) (w : World) (B : Nat) (hR : RdC w B A n cs) (hB : B ≤ w.heap.size) (hf : Few cs) (hok : okC cs) :
    Calls Try.prog 20 #[.slice A n c, .agg #[.int .i64 t.wall, .int .i64 t.tie]] w (RetCs w (trimF t cs)) := by
  obtain rfl : cs.length = n := hR.1
  have hn2 := hf.1
  have HR := Lib.hid (fun j (hj : j < cs.length) => hR.at_ hj)
  have HF := Lib.hid (fun (x : CellL) (hx : x ∈ cs) => (show x.vers.length ≤ 1000 ∧ x.vers.Pairwise (fun a b => lessF a.at_ b.at_ = true) from ⟨hf.2 x hx, (hok.2 x hx).1.1⟩))
  have RC := Lib.hid (fun (A : Option Addr) (n c : Nat) (vs : List VerL) (wq : World) (hq : Below w.heap.size w wq) (hV : RdVs w B A n vs) (hb : n ≤ 1000) (hs : vs.Pairwise (fun a b => lessF a.at_ b.at_ = true)) => reach_any A n c vs t wq B (hV.below (hq.mono hB)) (by have := hq.size; omega) hb hs)
  rw [trim_def]
  clear hR hf hok
  obtain ⟨tw, tt⟩ := t
  dsimp only at RC ⊢
  have hB0 : Hid (Below w.heap.size w (w.alloc (.cells #[.int .i64 tw, .int .i64 tt] 24))) := (Below.refl _ _).alloc (Nat.le_refl _) _
  have k0 : Hid (Blk 24 (w.alloc (.cells #[.int .i64 tw, .int .i64 tt] 24)) w.heap.size [.int .i64 tw, .int .i64 tt]) := heap_alloc_new w _
  go_enter Try.func20, Try.ntmps20
  go_upto_region 1 with (fail)
  generalize (w.alloc (.cells #[.int .i64 tw, .int .i64 tt] 24)) = w1 at *
  have hs1 : w.heap.size < w1.heap.size := k0.out.lt
  have K0 : Hid (∀ wq, Below w1.heap.size w1 wq → wq.cell? ⟨w.heap.size, 0, none⟩ = some (.int .i64 tw) ∧ wq.cell? ⟨w.heap.size, 1, none⟩ = some (.int .i64 tt)) := fun wq hq => blk2 (k0.out.below hq hs1)
  go_wp2_with fail
  go_loopw [5, 11] (fun ov iv wr => ∃ (j m : Nat) (A' : Option Addr) (c' : Nat), j ≤ cs.length ∧ iv = .int .i64 j ∧ ov = .slice A' m c' ∧ Hid (((cs.take j).filterMap (cutOne ⟨tw, tt⟩)).length = m) ∧ m ≤ j ∧ Hid (OwnCs2 wr w1.heap.size w1.heap.size (.slice A' m c') ((cs.take j).filterMap (cutOne ⟨tw, tt⟩))) ∧ Below w1.heap.size w1 wr) (fun _ iv _ => cs.length - (intOf iv).toNat)
  case atStart => exact ⟨0, 0, none, 0, Nat.zero_le _, rfl, rfl, rfl, Nat.le_refl _, OwnCs2.nil _ _ _, Below.refl _ _⟩
  case round =>
    obtain ⟨j, m, A', c', hj, rfl, rfl, hm, hmj, hO, hBr⟩ := hrel
    have hsr := hBr.size
    have hBw := hB0.out.trans (hBr.mono hB0.out.size)
    by_cases hlt : j < cs.length
    · obtain ⟨b, o, x, sv, rfl, hbB, hx, hS, hA⟩ := HR.out j hlt
      obtain ⟨hv1, hv2⟩ := HF.out x (List.mem_of_getElem? hx)
      obtain ⟨As, cv, rfl, hc1, hc2, hRv⟩ := hS
      obtain ⟨a0, a1, a2, a3, a4, a5, a6, a7, a8, a9, a10, a11⟩ := at12 (hA.below (show b < w.heap.size by omega) hBw)
      have HST := Lib.hid (fm_step (f := cutOne ⟨tw, tt⟩) hx)
      have hyw : Hid (∀ q, q < wr.heap.size → (wr.alloc (.cells #[.string x.key, .slice As x.vers.length cv, .bool x.locked, .int .i64 x.lock.by_.node, .int .i64 x.lock.by_.life, .int .i64 x.lock.by_.seq, .int .i64 x.lock.by_.att, .int .i64 x.lock.home, .int .i64 x.lock.at_.wall, .int .i64 x.lock.at_.tie, .bool x.lock.drop, .string x.lock.data] 45)).heap[q]? = wr.heap[q]?) := fun q hq => heap_alloc_old wr _ hq
      have kx : Blk 45 (wr.alloc (.cells #[.string x.key, .slice As x.vers.length cv, .bool x.locked, .int .i64 x.lock.by_.node, .int .i64 x.lock.by_.life, .int .i64 x.lock.by_.seq, .int .i64 x.lock.by_.att, .int .i64 x.lock.home, .int .i64 x.lock.at_.wall, .int .i64 x.lock.at_.tie, .bool x.lock.drop, .string x.lock.data] 45)) wr.heap.size [.string x.key, .slice As x.vers.length cv, .bool x.locked, .int .i64 x.lock.by_.node, .int .i64 x.lock.by_.life, .int .i64 x.lock.by_.seq, .int .i64 x.lock.by_.att, .int .i64 x.lock.home, .int .i64 x.lock.at_.wall, .int .i64 x.lock.at_.tie, .bool x.lock.drop, .string x.lock.data] := heap_alloc_new wr _
      have hBx := hBr.alloc hsr (.cells #[.string x.key, .slice As x.vers.length cv, .bool x.locked, .int .i64 x.lock.by_.node, .int .i64 x.lock.by_.life, .int .i64 x.lock.by_.seq, .int .i64 x.lock.by_.att, .int .i64 x.lock.home, .int .i64 x.lock.at_.wall, .int .i64 x.lock.at_.tie, .bool x.lock.drop, .string x.lock.data] 45)
      have RCx := Lib.hid (fun (wq : World) (h : Below w.heap.size w wq) => RC.out As x.vers.length cv x.vers wq h hRv hv1 hv2)
      have HRV := Lib.hid (fun (wq : World) (h : Below w.heap.size w wq) => (show RdVs wq B As x.vers.length x.vers from hRv.below (h.mono hB)))
      have HONE := Lib.hid (show cutOne ⟨tw, tt⟩ x = keepF { x with vers := cutF ⟨tw, tt⟩ x.vers } from rfl)
      clear hA hx hRv hv2
      go_upto_region 5 with (fail)
      clear a0 a1 a2 a3 a4 a5 a6 a7 a8 a9 a10 a11
      obtain ⟨g, hg⟩ : ∃ g, wr.heap.size = g := ⟨_, rfl⟩
      rw [hg] at kx hyw ⊢
      have hgw : w1.heap.size ≤ g := by omega
      generalize (wr.alloc (.cells #[.string x.key, .slice As x.vers.length cv, .bool x.locked, .int .i64 x.lock.by_.node, .int .i64 x.lock.by_.life, .int .i64 x.lock.by_.seq, .int .i64 x.lock.by_.att, .int .i64 x.lock.home, .int .i64 x.lock.at_.wall, .int .i64 x.lock.at_.tie, .bool x.lock.drop, .string x.lock.data] 45)) = y at *
      have hyl := kx.lt
      obtain ⟨a0, a1, a2, a3, a4, a5, a6, a7, a8, a9, a10, a11⟩ := blk12 kx
      obtain ⟨t0, t1⟩ := K0.out _ hBx
      go_wp2_with fail
      refine (RCx.out _ (hB0.out.trans (hBx.mono hB0.out.size))).mono ?_
      rintro e y2 ⟨k, rfl, hP, hY2⟩
      have hB12 := hBx.trans (hY2.mono hBx.size)
      have k2 := kx.below hY2 hyl
      have hkn := hP.1
      have HC := Lib.hid (rch_cut hP)
      clear a0 a1 a2 a3 a4 a5 a6 a7 a8 a9 a10 a11 t0 t1 kx hP RCx
      obtain ⟨a0, a1, a2, a3, a4, a5, a6, a7, a8, a9, a10, a11⟩ := blk12 k2
      have df := fun i => k2.frozen i
      rcases k with _ | i
      · obtain ⟨mm, HQM⟩ : ∃ mm : Nat, Hid (mm = 0) := ⟨0, rfl⟩
        have HC2 : Hid (cutF ⟨tw, tt⟩ x.vers = x.vers.drop mm) := by rw [HC.out, HQM.out]; exact Lib.hid rfl
        have hk0 : mm ≤ x.vers.length := by have := HQM.out; omega
        clear HC
        go_wp2_with (with_reducible refine wpList_versR_from rfl (.tmp 34) (.tmp 35) rfl As x.vers.length cv B x.vers rfl (HRV.out _ (hB0.out.trans (hB12.mono hB0.out.size))) .i64 _ (mm) rfl ?hLa hk0 hc1 ?_)
        case hLa => have := HQM.out; omega
        intro A2 c2 hR2
        have OW := Lib.hid (own_any A2 (x.vers.length - mm) c2 (x.vers.drop (mm)) y2 B hR2 (by omega))
        clear hR2
        go_wp2_with fail
        refine OW.out.mono ?_
        rintro e y3 ⟨A3, c3, rfl, hO3, hY3⟩
        have hB13 := hB12.trans (hY3.mono hB12.size)
        have k3 := k2.below hY3 k2.lt
        have hl3 := hY3.size
        clear a0 a1 a2 a3 a4 a5 a6 a7 a8 a9 a10 a11 k2 OW df
        obtain ⟨a0, a1, a2, a3, a4, a5, a6, a7, a8, a9, a10, a11⟩ := blk12 k3
        have df := fun i => k3.frozen i
        have k4 : Blk 45 (y3.setCell ⟨g, 1, none⟩ (.slice A3 (x.vers.length - mm) c3)) g [.string x.key, .slice A3 (x.vers.length - mm) c3, .bool x.locked, .int .i64 x.lock.by_.node, .int .i64 x.lock.by_.life, .int .i64 x.lock.by_.seq, .int .i64 x.lock.by_.att, .int .i64 x.lock.home, .int .i64 x.lock.at_.wall, .int .i64 x.lock.at_.tie, .bool x.lock.drop, .string x.lock.data] := k3.set_ 1 _
        have hg3 : g < y3.heap.size := k3.lt
        have hsz4 : (y3.setCell ⟨g, 1, none⟩ (.slice A3 (x.vers.length - mm) c3)).heap.size = y3.heap.size := by simp [World.setCell]
        have hB14 : Below w1.heap.size w1 (y3.setCell ⟨g, 1, none⟩ (.slice A3 (x.vers.length - mm) c3)) := hB13.setCell (p := ⟨g, 1, none⟩) hgw _
        have hO4 : OwnCs2 (y3.setCell ⟨g, 1, none⟩ (.slice A3 (x.vers.length - mm) c3)) w1.heap.size w1.heap.size (.slice A' m c') ((cs.take j).filterMap (cutOne ⟨tw, tt⟩)) := hO.out.keep (Nat.le_refl _) fun q _ hq => by
          rw [Below.heap_setCell y3 ⟨g, 1, none⟩ _ q (show q ≠ g by omega), hY3.block q (by have := hY2.size; omega), hY2.block q (by omega)]
          exact hyw.out q (by omega)
        have hV4 : VsIn (y3.setCell ⟨g, 1, none⟩ (.slice A3 (x.vers.length - mm) c3)) w1.heap.size (.slice A3 (x.vers.drop (mm)).length c3) (x.vers.drop (mm)) := by
          have h := (hO3.vsIn.keep (w' := y3.setCell ⟨g, 1, none⟩ (.slice A3 (x.vers.length - mm) c3)) fun q cur hq _ => Below.heap_setCell y3 ⟨g, 1, none⟩ _ q (show q ≠ g by have := hY2.size; omega)).more (base' := w1.heap.size) (by have := hB12.size; omega)
          rw [List.length_drop]
          exact h
        have KP := Lib.hid (keep_any A' m c' _ { x with vers := x.vers.drop (mm) } A3 c3 _ w1.heap.size w1.heap.size hO4 hm.out hV4 (by omega) (Nat.le_refl _) hB14.size)
        simp only [List.length_drop] at KP
        clear hO hO4 hV4 hO3
        go_upto_region 9 with (fail)
        clear df a0 a1 a2 a3 a4 a5 a6 a7 a8 a9 a10 a11 k3
        generalize (y3.setCell ⟨g, 1, none⟩ (.slice A3 (x.vers.length - mm) c3)) = y4 at *
        obtain ⟨a0, a1, a2, a3, a4, a5, a6, a7, a8, a9, a10, a11⟩ := blk12 k4
        go_wp2_with fail
        refine KP.out.mono ?_
        rintro e y5 ⟨A5, c5, rfl, hO5, hB5, _⟩
        have HN : Hid ((cs.take (j + 1)).filterMap (cutOne ⟨tw, tt⟩) = (cs.take j).filterMap (cutOne ⟨tw, tt⟩) ++ (keepF { x with vers := x.vers.drop (mm) }).toList) := by
          rw [HST.out, HONE.out, HC2.out]
          exact Lib.hid rfl
        rw [← HN.out] at hO5 ⊢
        have hBf := hB14.trans hB5
        have HO5 := Lib.hid hO5
        have hlen : ((cs.take (j + 1)).filterMap (cutOne ⟨tw, tt⟩)).length ≤ j + 1 := fm_len _ _ _
        generalize hLL : ((cs.take (j + 1)).filterMap (cutOne ⟨tw, tt⟩)).length = ll at *
        clear hO5 KP a0 a1 a2 a3 a4 a5 a6 a7 a8 a9 a10 a11 k4
        go_wp2_with fail
        go_roundw
        case rel => exact ⟨j + 1, ll, A5, c5, by omega, by go_num, rfl, Lib.hid hLL, by omega, HO5, hBf⟩
        case measure => simp [intOf]; omega
      · obtain ⟨bv, ov, u, e2, hbv, hu, hAu⟩ := (HRV.out _ (hB0.out.trans (hB12.mono hB0.out.size))).at_ (show i < x.vers.length by omega)
        subst e2
        obtain ⟨u0, u1, u2, u3⟩ := at4 hAu
        have hjn : ((i + 1 : Nat) : Int) - 1 = (i : Int) := by omega
        have hj1 : ((i + 1 : Nat) : Int) > 0 := by omega
        have hjw : IntKind.i64.wrap (i : Int) = (i : Int) := by rw [IntKind.wrap_i64]; omega
        have hjl : (i : Int) < (x.vers.length : Int) := by omega
        have hC := HC.out
        rw [if_neg (by omega), show i + 1 - 1 = i by omega, hu] at hC
        dsimp only at hC
        clear HC hu hAu u0 u1 u3
        generalize hud : u.drop = ud at *
        clear hud
        rcases ud with _ | _
        · obtain ⟨mm, HQM⟩ : ∃ mm : Nat, Hid (mm = i) := ⟨i, rfl⟩
          have HC2 : Hid (cutF ⟨tw, tt⟩ x.vers = x.vers.drop mm) := by rw [HQM.out]; exact hC
          have hk0 : mm ≤ x.vers.length := by have := HQM.out; omega
          clear hC
          go_wp2_with (with_reducible refine wpList_versR_from rfl (.tmp 34) (.tmp 35) rfl (some ⟨bv, ov, none⟩) x.vers.length cv B x.vers rfl (HRV.out _ (hB0.out.trans (hB12.mono hB0.out.size))) .i64 _ (mm) rfl ?hLb hk0 hc1 ?_)
          case hLb => have := HQM.out; omega
          intro A2 c2 hR2
          have OW := Lib.hid (own_any A2 (x.vers.length - mm) c2 (x.vers.drop (mm)) y2 B hR2 (by omega))
          clear hR2
          go_wp2_with fail
          refine OW.out.mono ?_
          rintro e y3 ⟨A3, c3, rfl, hO3, hY3⟩
          have hB13 := hB12.trans (hY3.mono hB12.size)
          have k3 := k2.below hY3 k2.lt
          have hl3 := hY3.size
          clear a0 a1 a2 a3 a4 a5 a6 a7 a8 a9 a10 a11 k2 OW df
          obtain ⟨a0, a1, a2, a3, a4, a5, a6, a7, a8, a9, a10, a11⟩ := blk12 k3
          have df := fun i => k3.frozen i
          have k4 : Blk 45 (y3.setCell ⟨g, 1, none⟩ (.slice A3 (x.vers.length - mm) c3)) g [.string x.key, .slice A3 (x.vers.length - mm) c3, .bool x.locked, .int .i64 x.lock.by_.node, .int .i64 x.lock.by_.life, .int .i64 x.lock.by_.seq, .int .i64 x.lock.by_.att, .int .i64 x.lock.home, .int .i64 x.lock.at_.wall, .int .i64 x.lock.at_.tie, .bool x.lock.drop, .string x.lock.data] := k3.set_ 1 _
          have hg3 : g < y3.heap.size := k3.lt
          have hsz4 : (y3.setCell ⟨g, 1, none⟩ (.slice A3 (x.vers.length - mm) c3)).heap.size = y3.heap.size := by simp [World.setCell]
          have hB14 : Below w1.heap.size w1 (y3.setCell ⟨g, 1, none⟩ (.slice A3 (x.vers.length - mm) c3)) := hB13.setCell (p := ⟨g, 1, none⟩) hgw _
          have hO4 : OwnCs2 (y3.setCell ⟨g, 1, none⟩ (.slice A3 (x.vers.length - mm) c3)) w1.heap.size w1.heap.size (.slice A' m c') ((cs.take j).filterMap (cutOne ⟨tw, tt⟩)) := hO.out.keep (Nat.le_refl _) fun q _ hq => by
            rw [Below.heap_setCell y3 ⟨g, 1, none⟩ _ q (show q ≠ g by omega), hY3.block q (by have := hY2.size; omega), hY2.block q (by omega)]
            exact hyw.out q (by omega)
          have hV4 : VsIn (y3.setCell ⟨g, 1, none⟩ (.slice A3 (x.vers.length - mm) c3)) w1.heap.size (.slice A3 (x.vers.drop (mm)).length c3) (x.vers.drop (mm)) := by
            have h := (hO3.vsIn.keep (w' := y3.setCell ⟨g, 1, none⟩ (.slice A3 (x.vers.length - mm) c3)) fun q cur hq _ => Below.heap_setCell y3 ⟨g, 1, none⟩ _ q (show q ≠ g by have := hY2.size; omega)).more (base' := w1.heap.size) (by have := hB12.size; omega)
            rw [List.length_drop]
            exact h
          have KP := Lib.hid (keep_any A' m c' _ { x with vers := x.vers.drop (mm) } A3 c3 _ w1.heap.size w1.heap.size hO4 hm.out hV4 (by omega) (Nat.le_refl _) hB14.size)
          simp only [List.length_drop] at KP
          clear hO hO4 hV4 hO3
          go_upto_region 9 with (fail)
          clear df a0 a1 a2 a3 a4 a5 a6 a7 a8 a9 a10 a11 k3
          generalize (y3.setCell ⟨g, 1, none⟩ (.slice A3 (x.vers.length - mm) c3)) = y4 at *
          obtain ⟨a0, a1, a2, a3, a4, a5, a6, a7, a8, a9, a10, a11⟩ := blk12 k4
          go_wp2_with fail
          refine KP.out.mono ?_
          rintro e y5 ⟨A5, c5, rfl, hO5, hB5, _⟩
          have HN : Hid ((cs.take (j + 1)).filterMap (cutOne ⟨tw, tt⟩) = (cs.take j).filterMap (cutOne ⟨tw, tt⟩) ++ (keepF { x with vers := x.vers.drop (mm) }).toList) := by
            rw [HST.out, HONE.out, HC2.out]
            exact Lib.hid rfl
          rw [← HN.out] at hO5 ⊢
          have hBf := hB14.trans hB5
          have HO5 := Lib.hid hO5
          have hlen : ((cs.take (j + 1)).filterMap (cutOne ⟨tw, tt⟩)).length ≤ j + 1 := fm_len _ _ _
          generalize hLL : ((cs.take (j + 1)).filterMap (cutOne ⟨tw, tt⟩)).length = ll at *
          clear hO5 KP a0 a1 a2 a3 a4 a5 a6 a7 a8 a9 a10 a11 k4
          go_wp2_with fail
          go_roundw
          case rel => exact ⟨j + 1, ll, A5, c5, by omega, by go_num, rfl, Lib.hid hLL, by omega, HO5, hBf⟩
          case measure => simp [intOf]; omega
        · obtain ⟨mm, HQM⟩ : ∃ mm : Nat, Hid (mm = i + 1) := ⟨i + 1, rfl⟩
          have HC2 : Hid (cutF ⟨tw, tt⟩ x.vers = x.vers.drop mm) := by rw [HQM.out]; exact hC
          have hk0 : mm ≤ x.vers.length := by have := HQM.out; omega
          clear hC
          go_wp2_with (with_reducible refine wpList_versR_from rfl (.tmp 34) (.tmp 35) rfl (some ⟨bv, ov, none⟩) x.vers.length cv B x.vers rfl (HRV.out _ (hB0.out.trans (hB12.mono hB0.out.size))) .i64 _ (mm) rfl ?hLc hk0 hc1 ?_)
          case hLc => have := HQM.out; omega
          intro A2 c2 hR2
          have OW := Lib.hid (own_any A2 (x.vers.length - mm) c2 (x.vers.drop (mm)) y2 B hR2 (by omega))
          clear hR2
          go_wp2_with fail
          refine OW.out.mono ?_
          rintro e y3 ⟨A3, c3, rfl, hO3, hY3⟩
          have hB13 := hB12.trans (hY3.mono hB12.size)
          have k3 := k2.below hY3 k2.lt
          have hl3 := hY3.size
          clear a0 a1 a2 a3 a4 a5 a6 a7 a8 a9 a10 a11 k2 OW df
          obtain ⟨a0, a1, a2, a3, a4, a5, a6, a7, a8, a9, a10, a11⟩ := blk12 k3
          have df := fun i => k3.frozen i
          have k4 : Blk 45 (y3.setCell ⟨g, 1, none⟩ (.slice A3 (x.vers.length - mm) c3)) g [.string x.key, .slice A3 (x.vers.length - mm) c3, .bool x.locked, .int .i64 x.lock.by_.node, .int .i64 x.lock.by_.life, .int .i64 x.lock.by_.seq, .int .i64 x.lock.by_.att, .int .i64 x.lock.home, .int .i64 x.lock.at_.wall, .int .i64 x.lock.at_.tie, .bool x.lock.drop, .string x.lock.data] := k3.set_ 1 _
          have hg3 : g < y3.heap.size := k3.lt
          have hsz4 : (y3.setCell ⟨g, 1, none⟩ (.slice A3 (x.vers.length - mm) c3)).heap.size = y3.heap.size := by simp [World.setCell]
          have hB14 : Below w1.heap.size w1 (y3.setCell ⟨g, 1, none⟩ (.slice A3 (x.vers.length - mm) c3)) := hB13.setCell (p := ⟨g, 1, none⟩) hgw _
          have hO4 : OwnCs2 (y3.setCell ⟨g, 1, none⟩ (.slice A3 (x.vers.length - mm) c3)) w1.heap.size w1.heap.size (.slice A' m c') ((cs.take j).filterMap (cutOne ⟨tw, tt⟩)) := hO.out.keep (Nat.le_refl _) fun q _ hq => by
            rw [Below.heap_setCell y3 ⟨g, 1, none⟩ _ q (show q ≠ g by omega), hY3.block q (by have := hY2.size; omega), hY2.block q (by omega)]
            exact hyw.out q (by omega)
          have hV4 : VsIn (y3.setCell ⟨g, 1, none⟩ (.slice A3 (x.vers.length - mm) c3)) w1.heap.size (.slice A3 (x.vers.drop (mm)).length c3) (x.vers.drop (mm)) := by
            have h := (hO3.vsIn.keep (w' := y3.setCell ⟨g, 1, none⟩ (.slice A3 (x.vers.length - mm) c3)) fun q cur hq _ => Below.heap_setCell y3 ⟨g, 1, none⟩ _ q (show q ≠ g by have := hY2.size; omega)).more (base' := w1.heap.size) (by have := hB12.size; omega)
            rw [List.length_drop]
            exact h
          have KP := Lib.hid (keep_any A' m c' _ { x with vers := x.vers.drop (mm) } A3 c3 _ w1.heap.size w1.heap.size hO4 hm.out hV4 (by omega) (Nat.le_refl _) hB14.size)
          simp only [List.length_drop] at KP
          clear hO hO4 hV4 hO3
          go_upto_region 9 with (fail)
          clear df a0 a1 a2 a3 a4 a5 a6 a7 a8 a9 a10 a11 k3
          generalize (y3.setCell ⟨g, 1, none⟩ (.slice A3 (x.vers.length - mm) c3)) = y4 at *
          obtain ⟨a0, a1, a2, a3, a4, a5, a6, a7, a8, a9, a10, a11⟩ := blk12 k4
          go_wp2_with fail
          refine KP.out.mono ?_
          rintro e y5 ⟨A5, c5, rfl, hO5, hB5, _⟩
          have HN : Hid ((cs.take (j + 1)).filterMap (cutOne ⟨tw, tt⟩) = (cs.take j).filterMap (cutOne ⟨tw, tt⟩) ++ (keepF { x with vers := x.vers.drop (mm) }).toList) := by
            rw [HST.out, HONE.out, HC2.out]
            exact Lib.hid rfl
          rw [← HN.out] at hO5 ⊢
          have hBf := hB14.trans hB5
          have HO5 := Lib.hid hO5
          have hlen : ((cs.take (j + 1)).filterMap (cutOne ⟨tw, tt⟩)).length ≤ j + 1 := fm_len _ _ _
          generalize hLL : ((cs.take (j + 1)).filterMap (cutOne ⟨tw, tt⟩)).length = ll at *
          clear hO5 KP a0 a1 a2 a3 a4 a5 a6 a7 a8 a9 a10 a11 k4
          go_wp2_with fail
          go_roundw
          case rel => exact ⟨j + 1, ll, A5, c5, by omega, by go_num, rfl, Lib.hid hLL, by omega, HO5, hBf⟩
          case measure => simp [intOf]; omega
    · obtain rfl : j = cs.length := by omega
      have hO1 := hO.out
      rw [List.take_length] at hO1 hm
      have HOf := Lib.hid (show RetCs w (cs.filterMap (cutOne ⟨tw, tt⟩)) (.returned (.slice A' m c')) wr from by
        unfold RetCs
        rw [hm.out]
        exact ⟨A', c', rfl, (hO1.one (Nat.le_refl _)).more (by omega), hBw⟩)
      clear hO hO1 hm
      go_wp2_with fail
      go_ret
      exact HOf.out
end Go.Proofs.Ytlkhmpfdajefiaa.mvi
