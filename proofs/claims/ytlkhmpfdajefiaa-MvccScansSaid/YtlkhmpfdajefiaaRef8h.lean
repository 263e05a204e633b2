/- What the document's Trim (antipoderef8) comes to. Conditions: few cells, few versions. -/
import Derived.Test.YtlkhmpfdajefiaaJoin1
import Derived.Test.YtlkhmpfdajefiaaJoin0
import Derived.Deep.RegionHeld3
import Derived.Deep.Cut
import Derived.BigQuiet
namespace Go.Proofs.Ytlkhmpfdajefiaa.ref8
open Go Go.RowKit Go.Proofs.Ytlkhmpfdajefiaa.kit Go.Proofs.Ytlkhmpfdajefiaa.nums Go.Proofs.Ytlkhmpfdajefiaa.st Go.Proofs.Ytlkhmpfdajefiaa.mv
set_option linter.unusedVariables false

/-- One cell, trimmed. -/
def cutOne (t : StL) (x : CellL) : Option CellL := keepF { x with vers := cutF t x.vers }
theorem trim_def (t : StL) (cs : List CellL) : trimF t cs = cs.filterMap (cutOne t) := rfl
/-- How many versions a trim strikes, from what its count has come to. -/
def strikes (t : StL) (vs : List VerL) (k : Nat) : Prop := (∀ u ∈ vs.take k, lessF t u.at_ = false) ∧ ∀ u, vs[k]? = some u → lessF t u.at_ = true
theorem cut_from {t : StL} {vs : List VerL} {k : Nat} (h : strikes t vs k) (hk : k ≤ vs.length) : cutF t vs = if k = 0 then vs else match vs[k - 1]? with | some u => if u.drop then vs.drop k else vs.drop (k - 1) | none => vs := by
  by_cases h0 : k = 0
  · subst h0
    rw [if_pos rfl]
    exact cut_zero h.2
  · rw [if_neg h0]
    have hu : vs[k - 1]? = some vs[k - 1] := List.getElem?_eq_getElem (by omega)
    have := cut_some vs (k - 1) vs[k - 1] hu (by rw [show k - 1 + 1 = k by omega]; exact h.1) (by rw [show k - 1 + 1 = k by omega]; exact h.2)
    rw [hu, this, show k - 1 + 1 = k by omega]
set_option maxRecDepth 100000 in
set_option maxHeartbeats 4000000 in
theorem trim_any (A : Option Addr) (n c : Nat) (cs : List CellL) (t : StL) (w : World) (B : Nat) (hR : RdC w B A n cs) (hB : B ≤ w.heap.size) (hf : Few cs) :
    Calls Try.prog 31 #[.slice A n c, ref6.stV t] w (RetCs w (trimF t cs)) := by
  obtain rfl : cs.length = n := hR.1
  have CP := Lib.hid (fun (w1 : World) (h : Below w.heap.size w w1) => copy_any A cs.length c cs w1 B (hR.below (h.mono hB)) (by have := h.size; omega) hf)
  have hn2 := hf.1
  have HF := Lib.hid hf.2
  have LS := Lib.hid (fun (a : StL) w => ref6.less_any t a w)
  rw [trim_def]
  obtain ⟨tw, tt⟩ := t
  unfold ref6.stV at LS ⊢
  dsimp only at LS ⊢
  clear hR hf
  have hB0 : Hid (Below w.heap.size w (w.alloc (.cells #[.int .i64 tw, .int .i64 tt] 24))) := (Below.refl _ _).alloc (Nat.le_refl _) _
  have k0 : Hid (Blk 24 (w.alloc (.cells #[.int .i64 tw, .int .i64 tt] 24)) w.heap.size [.int .i64 tw, .int .i64 tt]) := heap_alloc_new w _
  go_enter Try.func31, Try.ntmps31
  go_upto_region 2 with (fail)
  have C1 := Lib.hid (CP.out _ hB0.out)
  clear CP
  generalize (w.alloc (.cells #[.int .i64 tw, .int .i64 tt] 24)) = w1 at *
  go_wp2_with fail
  refine C1.out.mono ?_
  rintro e w2 ⟨A1, c1, rfl, hO1, hB2⟩
  have HL := Lib.hid (fun (j : Nat) (hj : j < cs.length) => hO1.at_ hj)
  have hs2 := hB2.size
  have hs1 : w.heap.size < w1.heap.size := k0.out.lt
  have K0 : Hid (∀ wq, Below w2.heap.size w2 wq → wq.cell? ⟨w.heap.size, 0, none⟩ = some (.int .i64 tw) ∧ wq.cell? ⟨w.heap.size, 1, none⟩ = some (.int .i64 tt)) := fun wq hq => blk2 ((k0.out.below hB2 hs1).below hq (by omega))
  clear hO1 C1
  go_wp2_with fail
  go_loopw [5, 7] (fun ov iv wr => ∃ (j m : Nat) (A' : Option Addr) (c' : Nat), j ≤ cs.length ∧ iv = .int .i64 j ∧ ov = .slice A' m c' ∧ Hid (((cs.take j).filterMap (cutOne ⟨tw, tt⟩)).length = m) ∧ m ≤ j ∧ OwnCs2 wr w2.heap.size w1.heap.size (.slice A' m c') ((cs.take j).filterMap (cutOne ⟨tw, tt⟩)) ∧ Below w2.heap.size w2 wr) (fun _ iv _ => cs.length - (intOf iv).toNat)
  case atStart => exact ⟨0, 0, none, 0, Nat.zero_le _, rfl, rfl, rfl, Nat.le_refl _, OwnCs2.nil _ _ _, Below.refl _ _⟩
  case round =>
    obtain ⟨j, m, A', c', hj, rfl, rfl, hm, hmj, hO, hBr⟩ := hrel
    have hsr := hBr.size
    by_cases hlt : j < cs.length
    · obtain ⟨b, x, sv, rfl, hb1, hb2, hx, hV, hA⟩ := HL.out j hlt
      have hvx := HF.out x (List.mem_of_getElem? hx)
      have hAr := hA.below hb2 hBr
      have hVr := hV.below hBr
      obtain ⟨As, cv, rfl, hc1, hc2, _⟩ := hV
      obtain ⟨a0, a1, a2, a3, a4, a5, a6, a7, a8, a9, a10, a11⟩ := at12 hAr
      have HST := Lib.hid (fm_step (f := cutOne ⟨tw, tt⟩) hx)
      have hyw : Hid (∀ q, q < wr.heap.size → (wr.alloc (.cells #[.string x.key, .slice As x.vers.length cv, .bool x.locked, .int .i64 x.lock.by_.node, .int .i64 x.lock.by_.life, .int .i64 x.lock.by_.seq, .int .i64 x.lock.by_.att, .int .i64 x.lock.home, .int .i64 x.lock.at_.wall, .int .i64 x.lock.at_.tie, .bool x.lock.drop, .string x.lock.data] 45)).heap[q]? = wr.heap[q]?) := fun q hq => heap_alloc_old wr _ hq
      have kx : Blk 45 (wr.alloc (.cells #[.string x.key, .slice As x.vers.length cv, .bool x.locked, .int .i64 x.lock.by_.node, .int .i64 x.lock.by_.life, .int .i64 x.lock.by_.seq, .int .i64 x.lock.by_.att, .int .i64 x.lock.home, .int .i64 x.lock.at_.wall, .int .i64 x.lock.at_.tie, .bool x.lock.drop, .string x.lock.data] 45)) wr.heap.size [.string x.key, .slice As x.vers.length cv, .bool x.locked, .int .i64 x.lock.by_.node, .int .i64 x.lock.by_.life, .int .i64 x.lock.by_.seq, .int .i64 x.lock.by_.att, .int .i64 x.lock.home, .int .i64 x.lock.at_.wall, .int .i64 x.lock.at_.tie, .bool x.lock.drop, .string x.lock.data] := heap_alloc_new wr _
      have hBx := hBr.alloc hsr (.cells #[.string x.key, .slice As x.vers.length cv, .bool x.locked, .int .i64 x.lock.by_.node, .int .i64 x.lock.by_.life, .int .i64 x.lock.by_.seq, .int .i64 x.lock.by_.att, .int .i64 x.lock.home, .int .i64 x.lock.at_.wall, .int .i64 x.lock.at_.tie, .bool x.lock.drop, .string x.lock.data] 45)
      have hVx := hVr.below ((Below.refl wr.heap.size wr).alloc (Nat.le_refl _) (.cells #[.string x.key, .slice As x.vers.length cv, .bool x.locked, .int .i64 x.lock.by_.node, .int .i64 x.lock.by_.life, .int .i64 x.lock.by_.seq, .int .i64 x.lock.by_.att, .int .i64 x.lock.home, .int .i64 x.lock.at_.wall, .int .i64 x.lock.at_.tie, .bool x.lock.drop, .string x.lock.data] 45))
      clear hA hAr hVr hx
      go_upto_region 7 with (fail)
      obtain ⟨g, hg⟩ : ∃ g, wr.heap.size = g := ⟨_, rfl⟩
      rw [hg] at kx hyw ⊢
      have hgw : w2.heap.size ≤ g := by omega
      generalize (wr.alloc (.cells #[.string x.key, .slice As x.vers.length cv, .bool x.locked, .int .i64 x.lock.by_.node, .int .i64 x.lock.by_.life, .int .i64 x.lock.by_.seq, .int .i64 x.lock.by_.att, .int .i64 x.lock.home, .int .i64 x.lock.at_.wall, .int .i64 x.lock.at_.tie, .bool x.lock.drop, .string x.lock.data] 45)) = y at *
      clear a0 a1 a2 a3 a4 a5 a6 a7 a8 a9 a10 a11
      have hyl := kx.lt
      have K1 := Lib.hid K0.out
      obtain ⟨wo, hwo⟩ : ∃ wo, wo = wr := ⟨_, rfl⟩
      subst hwo
      go_wp2_with fail
      go_loopw [9] (fun kv wr => ∃ k : Nat, k ≤ x.vers.length ∧ kv = .int .i64 k ∧ Hid (∀ u ∈ x.vers.take k, lessF ⟨tw, tt⟩ u.at_ = false) ∧ Below y.heap.size y wr) (fun kv _ => x.vers.length - (intOf kv).toNat)
      case atStart => exact ⟨0, Nat.zero_le _, rfl, (fun u hu => by cases hu), Below.refl _ _⟩
      case round =>
        obtain ⟨k, hk, rfl, hT, hBz⟩ := hrel
        have hBw := hBx.trans (hBz.mono hBx.size)
        have kz := kx.below hBz hyl
        have hVz := hVx.below hBz
        have p0 : Below wr.heap.size wr wr := Below.refl _ _
        go_upto_region 8 with (fail)
        go_cut [37] from 200 (fun bv wx => ∃ bb : Bool, bv = .bool bb ∧ Below wr.heap.size wr wx ∧ Hid (bb = true → k < x.vers.length ∧ ∀ u ∈ x.vers.take (k + 1), lessF ⟨tw, tt⟩ u.at_ = false) ∧ Hid (bb = false → strikes ⟨tw, tt⟩ x.vers k))
        case first =>
          by_cases hkl : k < x.vers.length
          · obtain ⟨bv, ov, u, rfl, hbv1, hbv2, hu, hAu⟩ := hVz.at_ hkl
            have HS : Hid (∀ wq, Below wr.heap.size wr wq → (wq.cell? ⟨w.heap.size, 0, none⟩ = some (.int .i64 tw) ∧ wq.cell? ⟨w.heap.size, 1, none⟩ = some (.int .i64 tt)) ∧ wq.cell? ⟨g, 1, none⟩ = some (.slice (some ⟨bv, ov, none⟩) x.vers.length cv) ∧ wq.cell? ⟨bv, ov + k * 4, none⟩ = some (.int .i64 u.at_.wall) ∧ wq.cell? ⟨bv, ov + k * 4 + 1, none⟩ = some (.int .i64 u.at_.tie)) := fun wq hq => by
              have hq2 := hBw.trans (hq.mono hBw.size)
              have kq := kz.below hq kz.lt
              have hAq := hAu.below hbv2 hq
              exact ⟨K1.out _ hq2, kq.cell 1, hAq 0 _ rfl, hAq 1 _ rfl⟩
            have LSu := Lib.hid (fun w => LS.out u.at_ w)
            have p0 : Below wr.heap.size wr wr.drew := p0.drew
            generalize hl : lessF ⟨tw, tt⟩ u.at_ = bl at *
            have R1 : Hid ((!bl) = true → k < x.vers.length ∧ ∀ u ∈ x.vers.take (k + 1), lessF ⟨tw, tt⟩ u.at_ = false) := fun h => ⟨hkl, take_more hT.out hu (by rw [hl]; simpa using h)⟩
            have R2 : Hid ((!bl) = false → strikes ⟨tw, tt⟩ x.vers k) := fun h => ⟨hT.out, fun u' hu' => by rw [hu] at hu'; obtain rfl := Option.some.inj hu'; rw [hl]; simpa using h⟩
            clear hT hu hl
            refine wp_region_held_drew (S := fun wq => (wq.cell? ⟨w.heap.size, 0, none⟩ = some (.int .i64 tw) ∧ wq.cell? ⟨w.heap.size, 1, none⟩ = some (.int .i64 tt)) ∧ wq.cell? ⟨g, 1, none⟩ = some (.slice (some ⟨bv, ov, none⟩) x.vers.length cv) ∧ wq.cell? ⟨bv, ov + k * 4, none⟩ = some (.int .i64 u.at_.wall) ∧ wq.cell? ⟨bv, ov + k * 4 + 1, none⟩ = some (.int .i64 u.at_.tie)) (by kernel_rfl) ?s_0 (fun hHeld => ?_)
            case s_0 => exact HS.out _ p0
            refine tk 0 { dst := some 22, op := .move (.tmp 9), type := 3, pos := "ref.go:184", after := #[], guard := none } _ ?_
            try simp only [Act.put, List.setIfInBounds_toArray, List.set_cons_zero, List.set_cons_succ]
            refine tk 1 { dst := some 23, op := .fieldAddr 45 (.tmp 8) 1, type := 0, pos := "ref.go:184", after := #[], guard := none } _ ?_
            try simp only [Act.put, List.setIfInBounds_toArray, List.set_cons_zero, List.set_cons_succ]
            refine tk 2 { dst := some 24, op := .load 43 (.tmp 23), type := 43, pos := "ref.go:184", after := #[{ on := 1, ground := .data }], guard := none } _ ?_
            try simp only [Act.put, List.setIfInBounds_toArray, List.set_cons_zero, List.set_cons_succ]
            refine tk 3 { dst := some 25, op := .call { callee := .builtin .len, args := #[.tmp 24], argTypes := #[43] }, type := 3, pos := "ref.go:184", after := #[{ on := 2, ground := .data }], guard := none } _ ?_
            try simp only [Act.put, List.setIfInBounds_toArray, List.set_cons_zero, List.set_cons_succ]
            refine tk 4 { dst := some 26, op := .binOp .lss 3 (.tmp 22) (.tmp 25) 3, type := 4, pos := "ref.go:184", after := #[{ on := 0, ground := .data }, { on := 3, ground := .data }], guard := none } _ ?_
            try simp only [Act.put, List.setIfInBounds_toArray, List.set_cons_zero, List.set_cons_succ]
            refine tk 5 { dst := some 27, op := .move (.tmp 26), type := 4, pos := "ref.go:184", after := #[{ on := 4, ground := .data }], guard := none } _ ?_
            try simp only [Act.put, List.setIfInBounds_toArray, List.set_cons_zero, List.set_cons_succ]
            refine tk 6 { dst := some 28, op := .load 24 (.tmp 3), type := 24, pos := "ref.go:184", after := #[{ on := 5, ground := .guard }], guard := some (5, true) } _ ?_
            try simp only [Act.put, List.setIfInBounds_toArray, List.set_cons_zero, List.set_cons_succ]
            refine tk 7 { dst := some 29, op := .fieldAddr 45 (.tmp 8) 1, type := 0, pos := "ref.go:184", after := #[{ on := 5, ground := .guard }], guard := some (5, true) } _ ?_
            try simp only [Act.put, List.setIfInBounds_toArray, List.set_cons_zero, List.set_cons_succ]
            refine tk 8 { dst := some 30, op := .load 43 (.tmp 29), type := 43, pos := "ref.go:184", after := #[{ on := 7, ground := .data }, { on := 5, ground := .guard }], guard := some (5, true) } _ ?_
            try simp only [Act.put, List.setIfInBounds_toArray, List.set_cons_zero, List.set_cons_succ]
            refine tk 9 { dst := some 31, op := .move (.tmp 9), type := 3, pos := "ref.go:184", after := #[{ on := 5, ground := .guard }], guard := some (5, true) } _ ?_
            try simp only [Act.put, List.setIfInBounds_toArray, List.set_cons_zero, List.set_cons_succ]
            refine tk 10 { dst := some 32, op := .indexAddr 43 (.tmp 30) (.tmp 31), type := 0, pos := "ref.go:184", after := #[{ on := 8, ground := .data }, { on := 9, ground := .data }, { on := 5, ground := .guard }], guard := some (5, true) } _ ?_
            try simp only [Act.put, List.setIfInBounds_toArray, List.set_cons_zero, List.set_cons_succ]
            refine tk 11 { dst := some 33, op := .fieldAddr 47 (.tmp 32) 0, type := 0, pos := "ref.go:184", after := #[{ on := 10, ground := .data }, { on := 5, ground := .guard }], guard := some (5, true) } _ ?_
            try simp only [Act.put, List.setIfInBounds_toArray, List.set_cons_zero, List.set_cons_succ]
            refine tk 12 { dst := some 34, op := .load 24 (.tmp 33), type := 24, pos := "ref.go:184", after := #[{ on := 11, ground := .data }, { on := 5, ground := .guard }], guard := some (5, true) } _ ?_
            try simp only [Act.put, List.setIfInBounds_toArray, List.set_cons_zero, List.set_cons_succ]
            refine wpAnyH_ready (rs := [13]) (by kernel_rfl) (by simp) ?_
            refine AllReadyH.cons (o := { dst := some 35, op := .call { callee := .value (.func 21), args := #[.tmp 28, .tmp 34], argTypes := #[24, 24] }, type := 4, pos := "ref.go:184", after := #[{ on := 6, ground := .data }, { on := 12, ground := .data }, { on := 5, ground := .chain }, { on := 5, ground := .guard }], guard := some (5, true) }) rfl (fun KQ hKQ => ?_) AllReadyH.nil
            go_simp
            refine (LSu.out _).mono ?_
            rintro e z1 ⟨rfl, hZ1⟩
            have p1 := p0.trans (hZ1.mono p0.size)
            have r1 := HS.out _ p1
            go_wp2_with fail
            refine hKQ.out _ _ ?s_13 (fun hHeld13 => ?_)
            case s_13 => exact r1
            clear hKQ KQ
            try simp only [Act.put, List.setIfInBounds_toArray, List.set_cons_zero, List.set_cons_succ]
            refine tk 14 { dst := some 36, op := .unOp .not 4 (.tmp 35), type := 4, pos := "ref.go:184", after := #[{ on := 13, ground := .data }, { on := 5, ground := .guard }], guard := some (5, true) } _ ?_
            try simp only [Act.put, List.setIfInBounds_toArray, List.set_cons_zero, List.set_cons_succ]
            refine tk 15 { dst := some 37, op := .pick (.tmp 27) (.tmp 36) (.const (.bool false)), type := 4, pos := "ref.go:184", after := #[{ on := 5, ground := .data }, { on := 14, ground := .data }], guard := none } _ ?_
            try simp only [Act.put, List.setIfInBounds_toArray, List.set_cons_zero, List.set_cons_succ]
            refine wpAnyH_done (by kernel_rfl) ?_ _
            go_wp2_with fail
            go_meet
            case rel => exact ⟨!bl, rfl, p1, R1, R2⟩
          · obtain rfl : k = x.vers.length := by omega
            have R1 : Hid (false = true → x.vers.length < x.vers.length ∧ ∀ u ∈ x.vers.take (x.vers.length + 1), lessF ⟨tw, tt⟩ u.at_ = false) := fun h => by cases h
            have R2 : Hid (false = false → strikes ⟨tw, tt⟩ x.vers x.vers.length) := fun h => ⟨hT.out, fun u' hu' => by rw [List.getElem?_eq_none (Nat.le_refl _)] at hu'; cases hu'⟩
            have c1 := kz.cell 1
            simp only [List.getElem?_cons_zero, List.getElem?_cons_succ] at c1
            clear hT hkl
            go_quiet (fail)
            go_wp2_with fail
            go_meet
            case rel => exact ⟨false, rfl, below_drewN p0 _, by simpa using R1, by simpa using R2⟩
        case rest =>
          obtain ⟨bb, rfl, hBc, R1, R2⟩ := hcut
          have kc := kz.below hBc kz.lt
          have hVc := hVz.below hBc
          have hBzc := hBz.trans (hBc.mono hBz.size)
          clear kz hVz hT p0 hBw
          rcases bb with _ | _
          · have HSK := Lib.hid (R2.out rfl)
            clear R1 R2
            have hBw := hBx.trans (hBzc.mono hBx.size)
            go_upto_region 10 with (fail)
            go_cut [51] from 200 (fun bv wx => ∃ bb : Bool, bv = .bool bb ∧ Hid (Below wc.heap.size wc wx) ∧ Hid (bb = true → 1 ≤ k ∧ cutF ⟨tw, tt⟩ x.vers = x.vers.drop (k - 1)) ∧ Hid (bb = false → cutF ⟨tw, tt⟩ x.vers = x.vers.drop k))
            case first =>
              have q1 := kc.cell 1
              simp only [List.getElem?_cons_zero, List.getElem?_cons_succ] at q1
              have hp : Hid (Below wc.heap.size wc wc) := Below.refl _ _
              by_cases h0 : k = 0
              · have hC := cut_from HSK.out hk
                rw [if_pos h0] at hC
                have R2 : Hid (False ∨ (cutF ⟨tw, tt⟩ x.vers = x.vers.drop k)) := .inr (by rw [hC, h0]; rfl)
                subst h0
                clear HSK hC
                go_wp2_with fail
                go_meet
                case rel => exact ⟨false, rfl, hp, (fun h => by cases h), (fun _ => R2.out.resolve_left id)⟩
              · obtain ⟨bv, ov, u, rfl, hbv1, hbv2, hu, hAu⟩ := hVc.at_ (show k - 1 < x.vers.length by omega)
                have hC := cut_from HSK.out hk
                rw [if_neg h0, hu] at hC
                dsimp only at hC
                have u2 : wc.cell? ⟨bv, ov + (k - 1) * 4 + 2, none⟩ = some (.bool u.drop) := hAu 2 _ rfl
                have hk1 : 1 ≤ k := by omega
                have hki : (k : Int) - 1 = ((k - 1 : Nat) : Int) := by omega
                generalize u.drop = ud at *
                have R1 : Hid ((!ud) = true → 1 ≤ k ∧ cutF ⟨tw, tt⟩ x.vers = x.vers.drop (k - 1)) := fun h => ⟨hk1, by rw [hC]; cases ud with | true => cases h | false => rfl⟩
                have R2 : Hid ((!ud) = false → cutF ⟨tw, tt⟩ x.vers = x.vers.drop k) := fun h => by rw [hC]; cases ud with | true => rfl | false => cases h
                clear HSK hC hu hAu h0
                go_wp2_with fail
                go_meet
                case rel => exact ⟨!ud, rfl, hp, R1, R2⟩
            case rest =>
              obtain ⟨bb, rfl, hBc2, R1, R2⟩ := hcut
              have hBc3 := hBc2.out
              have kc' := kc.below hBc3 kc.lt
              have hVc' := hVc.below hBc3
              have hBw' := hBw.trans (hBc3.mono hBw.size)
              have hBzc' := hBzc.trans (hBc3.mono hBzc.size)
              clear kc hVc hBw hBzc hBc2 hBc3 HSK
              have kc := kc'
              have hVc := hVc'
              have hBw := hBw'
              have hBzc := hBzc'
              clear kc' hVc' hBw' hBzc'
              rcases bb with _ | _
              · have HC := Lib.hid (R2.out rfl)
                have hkk : k ≤ x.vers.length := hk
                clear R1 R2
                have df := fun i => kc.frozen i
                have q1 := kc.cell 1
                simp only [List.getElem?_cons_zero, List.getElem?_cons_succ] at q1
                go_wp2_with (with_reducible refine wpList_vers_from rfl (.tmp 55) (.tmp 56) rfl w1.heap.size As x.vers.length cv x.vers rfl hVc .i64 _ (k) rfl ?hLx hkk ?_)
                case hLx => first | rfl | omega
                intro A2 c2 hV2
                have K4 : Blk 45 (wc.setCell ⟨g, 1, none⟩ (.slice A2 (x.vers.length - k) c2)) g [.string x.key, .slice A2 (x.vers.length - k) c2, .bool x.locked, .int .i64 x.lock.by_.node, .int .i64 x.lock.by_.life, .int .i64 x.lock.by_.seq, .int .i64 x.lock.by_.att, .int .i64 x.lock.home, .int .i64 x.lock.at_.wall, .int .i64 x.lock.at_.tie, .bool x.lock.drop, .string x.lock.data] := kc.set_ 1 _
                have hBz4 : Below w2.heap.size w2 (wc.setCell ⟨g, 1, none⟩ (.slice A2 (x.vers.length - k) c2)) := hBw.setCell (p := ⟨g, 1, none⟩) hgw _
                have hO4 : OwnCs2 (wc.setCell ⟨g, 1, none⟩ (.slice A2 (x.vers.length - k) c2)) w2.heap.size w1.heap.size (.slice A' m c') ((cs.take j).filterMap (cutOne ⟨tw, tt⟩)) := hO.keep hs2 fun q _ hq => by
                  rw [Below.heap_setCell wc ⟨g, 1, none⟩ _ q (show q ≠ g by omega), hBzc.block q (by omega)]
                  exact hyw.out q (by omega)
                have hV4 : VsIn (wc.setCell ⟨g, 1, none⟩ (.slice A2 (x.vers.length - k) c2)) w1.heap.size (.slice A2 (x.vers.length - k) c2) (x.vers.drop (k)) := hV2.keep fun q cur _ hq => Below.heap_setCell wc ⟨g, 1, none⟩ _ q (fun e => by
                  subst e
                  have hk := kc
                  unfold Blk at hk
                  rw [hq] at hk
                  simp only [Option.some.injEq, Obj.cells.injEq] at hk
                  exact types_apart hk.2.1.symm)
                go_upto_region 13 with (fail)
                clear kc hV2 hVc hO hyw df q1 hBw hBzc
                generalize (wc.setCell ⟨g, 1, none⟩ (.slice A2 (x.vers.length - k) c2)) = z at *
                have hsz := hBz4.size
                obtain ⟨e0, e1, e2, e3, e4, e5, e6, e7, e8, e9, e10, e11⟩ := blk12 K4
                by_cases hlk : x.locked = true
                · rw [hlk] at e2
                  have HN : Hid ((cs.take (j + 1)).filterMap (cutOne ⟨tw, tt⟩) = (cs.take j).filterMap (cutOne ⟨tw, tt⟩) ++ [{ x with vers := x.vers.drop k }]) := by
                    rw [HST.out, show cutOne ⟨tw, tt⟩ x = some { x with vers := x.vers.drop k } from by
                      unfold cutOne
                      rw [HC.out]
                      exact keep_yes (by rw [hlk]; rfl)]
                    exact Lib.hid rfl
                  have hAn : At (z.alloc (.cells #[.string x.key, .slice A2 (x.vers.length - k) c2, .bool true, .int .i64 x.lock.by_.node, .int .i64 x.lock.by_.life, .int .i64 x.lock.by_.seq, .int .i64 x.lock.by_.att, .int .i64 x.lock.home, .int .i64 x.lock.at_.wall, .int .i64 x.lock.at_.tie, .bool x.lock.drop, .string x.lock.data] 45)) z.heap.size 0 (cellC { x with vers := x.vers.drop k } (.slice A2 (x.vers.length - k) c2)) := by
                    show At _ _ _ [.string x.key, .slice A2 (x.vers.length - k) c2, .bool x.locked, .int .i64 x.lock.by_.node, .int .i64 x.lock.by_.life, .int .i64 x.lock.by_.seq, .int .i64 x.lock.by_.att, .int .i64 x.lock.home, .int .i64 x.lock.at_.wall, .int .i64 x.lock.at_.tie, .bool x.lock.drop, .string x.lock.data]
                    rw [hlk]
                    exact at_new z 45 _
                  have ha1 := (Below.refl z.heap.size z).alloc (Nat.le_refl _) (.cells #[.string x.key, .slice A2 (x.vers.length - k) c2, .bool true, .int .i64 x.lock.by_.node, .int .i64 x.lock.by_.life, .int .i64 x.lock.by_.seq, .int .i64 x.lock.by_.att, .int .i64 x.lock.home, .int .i64 x.lock.at_.wall, .int .i64 x.lock.at_.tie, .bool x.lock.drop, .string x.lock.data] 45)
                  have hOn := hO4.below hs2 ha1
                  have hVn := hV4.below ha1
                  have hBn := hBz4.alloc hsz (.cells #[.string x.key, .slice A2 (x.vers.length - k) c2, .bool true, .int .i64 x.lock.by_.node, .int .i64 x.lock.by_.life, .int .i64 x.lock.by_.seq, .int .i64 x.lock.by_.att, .int .i64 x.lock.home, .int .i64 x.lock.at_.wall, .int .i64 x.lock.at_.tie, .bool x.lock.drop, .string x.lock.data] 45)
                  clear HC HST ha1
                  go_wp2_with (at_builtin; with_reducible refine wpList_append_cell2 rfl (.tmp 67) (.tmp 69) rfl w2.heap.size w1.heap.size A' m c' _ hm.out rfl hOn (z.heap.size + 1) z.heap.size 0 1 { x with vers := x.vers.drop k } (.slice A2 (x.vers.length - k) c2) rfl (Nat.lt_succ_self _) hAn hVn ?hbax ?hbaseax ?_)
                  case hbax => omega
                  case hbaseax => simp; omega
                  intro A3 c3 w5 hO5 hB5 _
                  have hB15 := hBn.trans hB5
                  go_wp2_with fail
                  go_roundw
                  case rel => exact ⟨j + 1, m + 1, A3, c3, by omega, by go_num, rfl, by rw [HN.out, List.length_append, hm.out]; exact rfl, by omega, by rw [HN.out]; first | exact hO5 | simpa [hlk] using hO5, hB15⟩
                  case measure => simp [intOf]; omega
                · have hlk' : x.locked = false := by simpa using hlk
                  rw [hlk'] at e2
                  by_cases hk0 : x.vers.length - k = 0
                  · have HN : Hid ((cs.take (j + 1)).filterMap (cutOne ⟨tw, tt⟩) = (cs.take j).filterMap (cutOne ⟨tw, tt⟩)) := by
                      rw [HST.out, show cutOne ⟨tw, tt⟩ x = none from by
                        unfold cutOne
                        rw [HC.out]
                        exact keep_no (by rw [hlk', List.drop_of_length_le (by omega)]; rfl)]
                      simp [Hid]
                    clear HC HST
                    go_wp2_with fail
                    go_roundw
                    case rel => exact ⟨j + 1, m, A', c', by omega, by go_num, rfl, by rw [HN.out]; exact hm, by omega, by rw [HN.out]; exact hO4, hBz4⟩
                    case measure => simp [intOf]; omega
                  · have hpos : 0 < x.vers.length - k := by omega
                    have HN : Hid ((cs.take (j + 1)).filterMap (cutOne ⟨tw, tt⟩) = (cs.take j).filterMap (cutOne ⟨tw, tt⟩) ++ [{ x with vers := x.vers.drop k }]) := by
                      rw [HST.out, show cutOne ⟨tw, tt⟩ x = some { x with vers := x.vers.drop k } from by
                        unfold cutOne
                        rw [HC.out]
                        exact keep_yes (by rw [hlk']; cases hd : x.vers.drop (k) with | nil => (have := congrArg List.length hd; simp at this; omega) | cons _ _ => rfl)]
                      exact Lib.hid rfl
                    have hAn : At (z.alloc (.cells #[.string x.key, .slice A2 (x.vers.length - k) c2, .bool false, .int .i64 x.lock.by_.node, .int .i64 x.lock.by_.life, .int .i64 x.lock.by_.seq, .int .i64 x.lock.by_.att, .int .i64 x.lock.home, .int .i64 x.lock.at_.wall, .int .i64 x.lock.at_.tie, .bool x.lock.drop, .string x.lock.data] 45)) z.heap.size 0 (cellC { x with vers := x.vers.drop k } (.slice A2 (x.vers.length - k) c2)) := by
                      show At _ _ _ [.string x.key, .slice A2 (x.vers.length - k) c2, .bool x.locked, .int .i64 x.lock.by_.node, .int .i64 x.lock.by_.life, .int .i64 x.lock.by_.seq, .int .i64 x.lock.by_.att, .int .i64 x.lock.home, .int .i64 x.lock.at_.wall, .int .i64 x.lock.at_.tie, .bool x.lock.drop, .string x.lock.data]
                      rw [hlk']
                      exact at_new z 45 _
                    have ha1 := (Below.refl z.heap.size z).alloc (Nat.le_refl _) (.cells #[.string x.key, .slice A2 (x.vers.length - k) c2, .bool false, .int .i64 x.lock.by_.node, .int .i64 x.lock.by_.life, .int .i64 x.lock.by_.seq, .int .i64 x.lock.by_.att, .int .i64 x.lock.home, .int .i64 x.lock.at_.wall, .int .i64 x.lock.at_.tie, .bool x.lock.drop, .string x.lock.data] 45)
                    have hOn := hO4.below hs2 ha1
                    have hVn := hV4.below ha1
                    have hBn := hBz4.alloc hsz (.cells #[.string x.key, .slice A2 (x.vers.length - k) c2, .bool false, .int .i64 x.lock.by_.node, .int .i64 x.lock.by_.life, .int .i64 x.lock.by_.seq, .int .i64 x.lock.by_.att, .int .i64 x.lock.home, .int .i64 x.lock.at_.wall, .int .i64 x.lock.at_.tie, .bool x.lock.drop, .string x.lock.data] 45)
                    clear HC HST ha1
                    go_wp2_with (at_builtin; with_reducible refine wpList_append_cell2 rfl (.tmp 67) (.tmp 69) rfl w2.heap.size w1.heap.size A' m c' _ hm.out rfl hOn (z.heap.size + 1) z.heap.size 0 1 { x with vers := x.vers.drop k } (.slice A2 (x.vers.length - k) c2) rfl (Nat.lt_succ_self _) hAn hVn ?hbbx ?hbasebx ?_)
                    case hbbx => omega
                    case hbasebx => simp; omega
                    intro A3 c3 w5 hO5 hB5 _
                    have hB15 := hBn.trans hB5
                    go_wp2_with fail
                    go_roundw
                    case rel => exact ⟨j + 1, m + 1, A3, c3, by omega, by go_num, rfl, by rw [HN.out, List.length_append, hm.out]; exact rfl, by omega, by rw [HN.out]; first | exact hO5 | simpa [hlk'] using hO5, hB15⟩
                    case measure => simp [intOf]; omega
              · obtain ⟨hk1, hC⟩ := R1.out rfl
                have HC := Lib.hid hC
                have hkk : k - 1 ≤ x.vers.length := by omega
                clear R1 R2 hC
                go_upto_region 12 with (fail)
                have df := fun i => kc.frozen i
                have q1 := kc.cell 1
                simp only [List.getElem?_cons_zero, List.getElem?_cons_succ] at q1
                go_wp2_with (with_reducible refine wpList_vers_from rfl (.tmp 55) (.tmp 56) rfl w1.heap.size As x.vers.length cv x.vers rfl hVc .i64 _ ((k - 1)) rfl ?hLy hkk ?_)
                case hLy => first | rfl | omega
                intro A2 c2 hV2
                have K4 : Blk 45 (wc.setCell ⟨g, 1, none⟩ (.slice A2 (x.vers.length - (k - 1)) c2)) g [.string x.key, .slice A2 (x.vers.length - (k - 1)) c2, .bool x.locked, .int .i64 x.lock.by_.node, .int .i64 x.lock.by_.life, .int .i64 x.lock.by_.seq, .int .i64 x.lock.by_.att, .int .i64 x.lock.home, .int .i64 x.lock.at_.wall, .int .i64 x.lock.at_.tie, .bool x.lock.drop, .string x.lock.data] := kc.set_ 1 _
                have hBz4 : Below w2.heap.size w2 (wc.setCell ⟨g, 1, none⟩ (.slice A2 (x.vers.length - (k - 1)) c2)) := hBw.setCell (p := ⟨g, 1, none⟩) hgw _
                have hO4 : OwnCs2 (wc.setCell ⟨g, 1, none⟩ (.slice A2 (x.vers.length - (k - 1)) c2)) w2.heap.size w1.heap.size (.slice A' m c') ((cs.take j).filterMap (cutOne ⟨tw, tt⟩)) := hO.keep hs2 fun q _ hq => by
                  rw [Below.heap_setCell wc ⟨g, 1, none⟩ _ q (show q ≠ g by omega), hBzc.block q (by omega)]
                  exact hyw.out q (by omega)
                have hV4 : VsIn (wc.setCell ⟨g, 1, none⟩ (.slice A2 (x.vers.length - (k - 1)) c2)) w1.heap.size (.slice A2 (x.vers.length - (k - 1)) c2) (x.vers.drop ((k - 1))) := hV2.keep fun q cur _ hq => Below.heap_setCell wc ⟨g, 1, none⟩ _ q (fun e => by
                  subst e
                  have hk := kc
                  unfold Blk at hk
                  rw [hq] at hk
                  simp only [Option.some.injEq, Obj.cells.injEq] at hk
                  exact types_apart hk.2.1.symm)
                go_upto_region 13 with (fail)
                clear kc hV2 hVc hO hyw df q1 hBw hBzc
                generalize (wc.setCell ⟨g, 1, none⟩ (.slice A2 (x.vers.length - (k - 1)) c2)) = z at *
                have hsz := hBz4.size
                obtain ⟨e0, e1, e2, e3, e4, e5, e6, e7, e8, e9, e10, e11⟩ := blk12 K4
                by_cases hlk : x.locked = true
                · rw [hlk] at e2
                  have HN : Hid ((cs.take (j + 1)).filterMap (cutOne ⟨tw, tt⟩) = (cs.take j).filterMap (cutOne ⟨tw, tt⟩) ++ [{ x with vers := x.vers.drop (k - 1) }]) := by
                    rw [HST.out, show cutOne ⟨tw, tt⟩ x = some { x with vers := x.vers.drop (k - 1) } from by
                      unfold cutOne
                      rw [HC.out]
                      exact keep_yes (by rw [hlk]; rfl)]
                    exact Lib.hid rfl
                  have hAn : At (z.alloc (.cells #[.string x.key, .slice A2 (x.vers.length - (k - 1)) c2, .bool true, .int .i64 x.lock.by_.node, .int .i64 x.lock.by_.life, .int .i64 x.lock.by_.seq, .int .i64 x.lock.by_.att, .int .i64 x.lock.home, .int .i64 x.lock.at_.wall, .int .i64 x.lock.at_.tie, .bool x.lock.drop, .string x.lock.data] 45)) z.heap.size 0 (cellC { x with vers := x.vers.drop (k - 1) } (.slice A2 (x.vers.length - (k - 1)) c2)) := by
                    show At _ _ _ [.string x.key, .slice A2 (x.vers.length - (k - 1)) c2, .bool x.locked, .int .i64 x.lock.by_.node, .int .i64 x.lock.by_.life, .int .i64 x.lock.by_.seq, .int .i64 x.lock.by_.att, .int .i64 x.lock.home, .int .i64 x.lock.at_.wall, .int .i64 x.lock.at_.tie, .bool x.lock.drop, .string x.lock.data]
                    rw [hlk]
                    exact at_new z 45 _
                  have ha1 := (Below.refl z.heap.size z).alloc (Nat.le_refl _) (.cells #[.string x.key, .slice A2 (x.vers.length - (k - 1)) c2, .bool true, .int .i64 x.lock.by_.node, .int .i64 x.lock.by_.life, .int .i64 x.lock.by_.seq, .int .i64 x.lock.by_.att, .int .i64 x.lock.home, .int .i64 x.lock.at_.wall, .int .i64 x.lock.at_.tie, .bool x.lock.drop, .string x.lock.data] 45)
                  have hOn := hO4.below hs2 ha1
                  have hVn := hV4.below ha1
                  have hBn := hBz4.alloc hsz (.cells #[.string x.key, .slice A2 (x.vers.length - (k - 1)) c2, .bool true, .int .i64 x.lock.by_.node, .int .i64 x.lock.by_.life, .int .i64 x.lock.by_.seq, .int .i64 x.lock.by_.att, .int .i64 x.lock.home, .int .i64 x.lock.at_.wall, .int .i64 x.lock.at_.tie, .bool x.lock.drop, .string x.lock.data] 45)
                  clear HC HST ha1
                  go_wp2_with (at_builtin; with_reducible refine wpList_append_cell2 rfl (.tmp 67) (.tmp 69) rfl w2.heap.size w1.heap.size A' m c' _ hm.out rfl hOn (z.heap.size + 1) z.heap.size 0 1 { x with vers := x.vers.drop (k - 1) } (.slice A2 (x.vers.length - (k - 1)) c2) rfl (Nat.lt_succ_self _) hAn hVn ?hbay ?hbaseay ?_)
                  case hbay => omega
                  case hbaseay => simp; omega
                  intro A3 c3 w5 hO5 hB5 _
                  have hB15 := hBn.trans hB5
                  go_wp2_with fail
                  go_roundw
                  case rel => exact ⟨j + 1, m + 1, A3, c3, by omega, by go_num, rfl, by rw [HN.out, List.length_append, hm.out]; exact rfl, by omega, by rw [HN.out]; first | exact hO5 | simpa [hlk] using hO5, hB15⟩
                  case measure => simp [intOf]; omega
                · have hlk' : x.locked = false := by simpa using hlk
                  rw [hlk'] at e2
                  by_cases hk0 : x.vers.length - (k - 1) = 0
                  · exfalso; omega
                  · have hpos : 0 < x.vers.length - (k - 1) := by omega
                    have HN : Hid ((cs.take (j + 1)).filterMap (cutOne ⟨tw, tt⟩) = (cs.take j).filterMap (cutOne ⟨tw, tt⟩) ++ [{ x with vers := x.vers.drop (k - 1) }]) := by
                      rw [HST.out, show cutOne ⟨tw, tt⟩ x = some { x with vers := x.vers.drop (k - 1) } from by
                        unfold cutOne
                        rw [HC.out]
                        exact keep_yes (by rw [hlk']; cases hd : x.vers.drop ((k - 1)) with | nil => (have := congrArg List.length hd; simp at this; omega) | cons _ _ => rfl)]
                      exact Lib.hid rfl
                    have hAn : At (z.alloc (.cells #[.string x.key, .slice A2 (x.vers.length - (k - 1)) c2, .bool false, .int .i64 x.lock.by_.node, .int .i64 x.lock.by_.life, .int .i64 x.lock.by_.seq, .int .i64 x.lock.by_.att, .int .i64 x.lock.home, .int .i64 x.lock.at_.wall, .int .i64 x.lock.at_.tie, .bool x.lock.drop, .string x.lock.data] 45)) z.heap.size 0 (cellC { x with vers := x.vers.drop (k - 1) } (.slice A2 (x.vers.length - (k - 1)) c2)) := by
                      show At _ _ _ [.string x.key, .slice A2 (x.vers.length - (k - 1)) c2, .bool x.locked, .int .i64 x.lock.by_.node, .int .i64 x.lock.by_.life, .int .i64 x.lock.by_.seq, .int .i64 x.lock.by_.att, .int .i64 x.lock.home, .int .i64 x.lock.at_.wall, .int .i64 x.lock.at_.tie, .bool x.lock.drop, .string x.lock.data]
                      rw [hlk']
                      exact at_new z 45 _
                    have ha1 := (Below.refl z.heap.size z).alloc (Nat.le_refl _) (.cells #[.string x.key, .slice A2 (x.vers.length - (k - 1)) c2, .bool false, .int .i64 x.lock.by_.node, .int .i64 x.lock.by_.life, .int .i64 x.lock.by_.seq, .int .i64 x.lock.by_.att, .int .i64 x.lock.home, .int .i64 x.lock.at_.wall, .int .i64 x.lock.at_.tie, .bool x.lock.drop, .string x.lock.data] 45)
                    have hOn := hO4.below hs2 ha1
                    have hVn := hV4.below ha1
                    have hBn := hBz4.alloc hsz (.cells #[.string x.key, .slice A2 (x.vers.length - (k - 1)) c2, .bool false, .int .i64 x.lock.by_.node, .int .i64 x.lock.by_.life, .int .i64 x.lock.by_.seq, .int .i64 x.lock.by_.att, .int .i64 x.lock.home, .int .i64 x.lock.at_.wall, .int .i64 x.lock.at_.tie, .bool x.lock.drop, .string x.lock.data] 45)
                    clear HC HST ha1
                    go_wp2_with (at_builtin; with_reducible refine wpList_append_cell2 rfl (.tmp 67) (.tmp 69) rfl w2.heap.size w1.heap.size A' m c' _ hm.out rfl hOn (z.heap.size + 1) z.heap.size 0 1 { x with vers := x.vers.drop (k - 1) } (.slice A2 (x.vers.length - (k - 1)) c2) rfl (Nat.lt_succ_self _) hAn hVn ?hbby ?hbaseby ?_)
                    case hbby => omega
                    case hbaseby => simp; omega
                    intro A3 c3 w5 hO5 hB5 _
                    have hB15 := hBn.trans hB5
                    go_wp2_with fail
                    go_roundw
                    case rel => exact ⟨j + 1, m + 1, A3, c3, by omega, by go_num, rfl, by rw [HN.out, List.length_append, hm.out]; exact rfl, by omega, by rw [HN.out]; first | exact hO5 | simpa [hlk'] using hO5, hB15⟩
                    case measure => simp [intOf]; omega
          · obtain ⟨hkl, hT2⟩ := R1.out rfl
            have hT3 := Lib.hid hT2
            clear R1 R2 hT2
            go_wp2_with fail
            go_roundw
            case rel => exact ⟨k + 1, by omega, by go_num, hT3, hBzc⟩
            case measure => simp [intOf]; omega
    · obtain rfl : j = cs.length := by omega
      rw [List.take_length] at hO hm
      have hOf := (hO.one hs2).more (base' := w.heap.size) (by omega)
      have hBf := hB0.out.trans ((hB2.trans (hBr.mono hs2)).mono hB0.out.size)
      go_wp2_with fail
      go_ret
      unfold RetCs
      rw [hm.out]
      exact ⟨A', c', rfl, hOf, hBf⟩
end Go.Proofs.Ytlkhmpfdajefiaa.ref8
