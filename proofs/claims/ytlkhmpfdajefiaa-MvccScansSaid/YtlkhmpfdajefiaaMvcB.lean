/- What the program's Less (stamp), reach, read, within, holds, own and decided (mvcc) come to. Conditions: those that each theorem names. -/
import Derived.Test.YtlkhmpfdajefiaaJoin1
import Derived.Deep.RegionHeld3
import Derived.BigQuiet
import Derived.Laws.Slices
namespace Go.Proofs.Ytlkhmpfdajefiaa.mvi
open Go Go.RowKit Go.Proofs.Ytlkhmpfdajefiaa.kit Go.Proofs.Ytlkhmpfdajefiaa.nums Go.Proofs.Ytlkhmpfdajefiaa.st Go.Proofs.Ytlkhmpfdajefiaa.mv Go.Proofs.Ytlkhmpfdajefiaa.ref8
set_option linter.unusedVariables false

theorem less_any (a b : StL) (w : World) :
    Calls Try.prog 52 #[.agg #[.int .i64 a.wall, .int .i64 a.tie], .agg #[.int .i64 b.wall, .int .i64 b.tie]] w fun e w' => e = .returned (.bool (lessF a b)) ∧ Below w.heap.size w w' := by
  obtain ⟨p, q⟩ := a
  obtain ⟨r, s⟩ := b
  have HB : Hid (Below w.heap.size w ((w.alloc (.cells #[.int .i64 p, .int .i64 q] 24)).alloc (.cells #[.int .i64 r, .int .i64 s] 24))) := ((Below.refl _ _).alloc (Nat.le_refl _) _).alloc (by simp) _
  unfold lessF
  dsimp only
  by_cases h1 : p < r
  · go_enter Try.func52, Try.ntmps52
    go_wp2_with fail
    go_ret
    exact ⟨by simp [h1], HB.out⟩
  · by_cases h2 : p = r
    · subst h2
      go_enter Try.func52, Try.ntmps52
      go_wp2_with fail
      go_ret
      exact ⟨by simp, HB.out⟩
    · have h2' : (p == r) = false := by simpa using h2
      go_enter Try.func52, Try.ntmps52
      go_wp2_with fail
      go_ret
      exact ⟨by simp [h1], HB.out⟩
set_option maxRecDepth 100000 in
set_option maxHeartbeats 2000000 in
theorem reach_any (A : Option Addr) (n c : Nat) (vs : List VerL) (t : StL) (w : World) (B : Nat) (hR : RdVs w B A n vs) (hB : B ≤ w.heap.size) (hb : n ≤ 1000) (hs : vs.Pairwise (fun a b => lessF a.at_ b.at_ = true)) :
    Calls Try.prog 39 #[.slice A n c, .agg #[.int .i64 t.wall, .int .i64 t.tie]] w fun e w' => ∃ k : Nat, e = .returned (.int .i64 k) ∧ Rch vs t k ∧ Below w.heap.size w w' := by
  have HR := Lib.hid (fun j (hj : j < n) => hR.at_ hj)
  have HL := Lib.hid hR.1
  have LS := Lib.hid (fun (a : StL) w => less_any t a w)
  have HP := Lib.hid (fun (k : Nat) (hk : k ≤ vs.length) => rch_of hs (t := t) hk)
  clear hR hs
  obtain ⟨tw, tt⟩ := t
  dsimp only at LS ⊢
  have hB0 : Hid (Below w.heap.size w (w.alloc (.cells #[.int .i64 tw, .int .i64 tt] 24))) := (Below.refl _ _).alloc (Nat.le_refl _) _
  have k0 : Hid (Blk 24 (w.alloc (.cells #[.int .i64 tw, .int .i64 tt] 24)) w.heap.size [.int .i64 tw, .int .i64 tt]) := heap_alloc_new w _
  go_enter Try.func39, Try.ntmps39
  go_upto_region 1 with (fail)
  generalize (w.alloc (.cells #[.int .i64 tw, .int .i64 tt] 24)) = w1 at *
  go_wp2_with fail
  go_loopw [5] (fun kv wr => ∃ k : Nat, k ≤ n ∧ kv = .int .i64 k ∧ Hid (∀ u ∈ vs.drop k, lessF ⟨tw, tt⟩ u.at_ = true) ∧ Below w1.heap.size w1 wr) (fun kv _ => (intOf kv).toNat)
  case atStart => exact ⟨n, Nat.le_refl _, rfl, (by rw [List.drop_of_length_le (by rw [HL.out]; exact Nat.le_refl _)]; intro u hu; cases hu), Below.refl _ _⟩
  case round =>
    obtain ⟨k, hk, rfl, hD, hBr⟩ := hrel
    rcases k with _ | j
    · have hP := Lib.hid (HP.out 0 (Nat.zero_le _) hD.out (fun u h => absurd h (by omega)))
      have p0 : Below w1.heap.size w1 wr := hBr
      clear hD
      go_wp2_with fail
      go_quiet (fail)
      go_wp2_with fail
      go_ret
      exact ⟨0, rfl, hP.out, below_drewN (hB0.out.trans (p0.mono hB0.out.size)) _⟩
    · obtain ⟨bv, ov, u, rfl, hbB, hu, hA⟩ := HR.out j (by omega)
      have HS : Hid (∀ wq, Below w1.heap.size w1 wq → (wq.cell? ⟨w.heap.size, 0, none⟩ = some (.int .i64 tw) ∧ wq.cell? ⟨w.heap.size, 1, none⟩ = some (.int .i64 tt)) ∧ wq.cell? ⟨bv, ov + j * 4, none⟩ = some (.int .i64 u.at_.wall) ∧ wq.cell? ⟨bv, ov + j * 4 + 1, none⟩ = some (.int .i64 u.at_.tie)) := fun wq hq => by
        have kq := k0.out.below hq k0.out.lt
        have hAq := hA.below (show bv < w.heap.size by omega) (hB0.out.trans (hq.mono hB0.out.size))
        exact ⟨⟨kq.cell 0, kq.cell 1⟩, hAq 0 _ rfl, hAq 1 _ rfl⟩
      have LSu := Lib.hid (fun w => LS.out u.at_ w)
      have p0 : Below w1.heap.size w1 wr.drew := hBr.drew
      have hjn : ((j + 1 : Nat) : Int) - 1 = (j : Int) := by omega
      have hj1 : ((j + 1 : Nat) : Int) > 0 := by omega
      have hjw : IntKind.i64.wrap (j : Int) = (j : Int) := by rw [IntKind.wrap_i64]; omega
      have hjl : (j : Int) < (n : Int) := by omega
      have HDu : Hid (lessF ⟨tw, tt⟩ u.at_ = true → ∀ v ∈ vs.drop j, lessF ⟨tw, tt⟩ v.at_ = true) := fun h v hv => by
        obtain ⟨hj2, rfl⟩ := List.getElem?_eq_some_iff.1 hu
        rw [List.drop_eq_getElem_cons hj2] at hv
        rcases List.mem_cons.1 hv with rfl | hv
        · exact h
        · exact hD.out v hv
      have HPu : Hid (lessF ⟨tw, tt⟩ u.at_ = false → Rch vs ⟨tw, tt⟩ (j + 1)) := fun h => HP.out (j + 1) (by rw [HL.out]; exact hk) hD.out (fun v _ hv => by rw [show j + 1 - 1 = j by omega, hu] at hv; obtain rfl := Option.some.inj hv; exact h)
      clear hD hu hA
      generalize hl : lessF ⟨tw, tt⟩ u.at_ = bl at *
      clear hl
      go_upto_region 2 with (fail)
      refine wp_region_held_drew (S := fun wq => (wq.cell? ⟨w.heap.size, 0, none⟩ = some (.int .i64 tw) ∧ wq.cell? ⟨w.heap.size, 1, none⟩ = some (.int .i64 tt)) ∧ wq.cell? ⟨bv, ov + j * 4, none⟩ = some (.int .i64 u.at_.wall) ∧ wq.cell? ⟨bv, ov + j * 4 + 1, none⟩ = some (.int .i64 u.at_.tie)) (by kernel_rfl) ?s_0 (fun hHeld => ?_)
      case s_0 => exact HS.out _ p0
      refine tk 0 { dst := some 8, op := .move (.tmp 5), type := 3, pos := "mvcc.go:162", after := #[], guard := none } _ ?_
      try simp only [Act.put, List.setIfInBounds_toArray, List.set_cons_zero, List.set_cons_succ]
      refine tk 1 { dst := some 9, op := .binOp .gtr 3 (.tmp 8) (.const (.int .i64 0)) 3, type := 4, pos := "mvcc.go:162", after := #[{ on := 0, ground := .data }], guard := none } _ ?_
      try simp only [Act.put, List.setIfInBounds_toArray, List.set_cons_zero, List.set_cons_succ]
      refine tk 2 { dst := some 10, op := .move (.tmp 9), type := 4, pos := "mvcc.go:162", after := #[{ on := 1, ground := .data }], guard := none } _ ?_
      try simp only [Act.put, List.setIfInBounds_toArray, List.set_cons_zero, List.set_cons_succ]
      refine tk 3 { dst := some 11, op := .load 24 (.tmp 3), type := 24, pos := "mvcc.go:162", after := #[{ on := 2, ground := .guard }], guard := some (2, true) } _ ?_
      try simp only [Act.put, List.setIfInBounds_toArray, List.set_cons_zero, List.set_cons_succ]
      refine tk 4 { dst := some 12, op := .move (.tmp 0), type := 43, pos := "mvcc.go:162", after := #[{ on := 2, ground := .guard }], guard := some (2, true) } _ ?_
      try simp only [Act.put, List.setIfInBounds_toArray, List.set_cons_zero, List.set_cons_succ]
      refine tk 5 { dst := some 13, op := .move (.tmp 5), type := 3, pos := "mvcc.go:162", after := #[{ on := 2, ground := .guard }], guard := some (2, true) } _ ?_
      try simp only [Act.put, List.setIfInBounds_toArray, List.set_cons_zero, List.set_cons_succ]
      refine tk 6 { dst := some 14, op := .binOp .sub 3 (.tmp 13) (.const (.int .i64 1)) 3, type := 3, pos := "mvcc.go:162", after := #[{ on := 5, ground := .data }, { on := 2, ground := .guard }], guard := some (2, true) } _ ?_
      try simp only [Act.put, List.setIfInBounds_toArray, List.set_cons_zero, List.set_cons_succ]
      refine tk 7 { dst := some 15, op := .indexAddr 43 (.tmp 12) (.tmp 14), type := 0, pos := "mvcc.go:162", after := #[{ on := 4, ground := .data }, { on := 6, ground := .data }, { on := 2, ground := .guard }], guard := some (2, true) } _ ?_
      try simp only [Act.put, List.setIfInBounds_toArray, List.set_cons_zero, List.set_cons_succ]
      refine tk 8 { dst := some 16, op := .fieldAddr 47 (.tmp 15) 0, type := 0, pos := "mvcc.go:162", after := #[{ on := 7, ground := .data }, { on := 2, ground := .guard }], guard := some (2, true) } _ ?_
      try simp only [Act.put, List.setIfInBounds_toArray, List.set_cons_zero, List.set_cons_succ]
      refine tk 9 { dst := some 17, op := .load 24 (.tmp 16), type := 24, pos := "mvcc.go:162", after := #[{ on := 8, ground := .data }, { on := 2, ground := .guard }], guard := some (2, true) } _ ?_
      try simp only [Act.put, List.setIfInBounds_toArray, List.set_cons_zero, List.set_cons_succ]
      refine wpAnyH_ready (rs := [10]) (by kernel_rfl) (by simp) ?_
      refine AllReadyH.cons (o := { dst := some 18, op := .call { callee := .value (.func 52), args := #[.tmp 11, .tmp 17], argTypes := #[24, 24] }, type := 4, pos := "mvcc.go:162", after := #[{ on := 3, ground := .data }, { on := 9, ground := .data }, { on := 2, ground := .chain }, { on := 2, ground := .guard }], guard := some (2, true) }) rfl (fun KQ hKQ => ?_) AllReadyH.nil
      go_simp
      refine (LSu.out _).mono ?_
      rintro e z1 ⟨rfl, hZ1⟩
      have p1 := p0.trans (hZ1.mono p0.size)
      have r1 := HS.out _ p1
      go_wp2_with fail
      refine hKQ.out _ _ ?s_10 (fun hHeld10 => ?_)
      case s_10 => exact r1
      clear hKQ KQ
      try simp only [Act.put, List.setIfInBounds_toArray, List.set_cons_zero, List.set_cons_succ]
      refine tk 11 { dst := some 19, op := .pick (.tmp 10) (.tmp 18) (.const (.bool false)), type := 4, pos := "mvcc.go:162", after := #[{ on := 2, ground := .data }, { on := 10, ground := .data }], guard := none } _ ?_
      try simp only [Act.put, List.setIfInBounds_toArray, List.set_cons_zero, List.set_cons_succ]
      refine wpAnyH_done (by kernel_rfl) ?_ _
      rcases bl with _ | _
      · have HP2 := Lib.hid (HPu.out rfl)
        clear HPu HDu
        go_wp2_with fail
        go_ret
        exact ⟨j + 1, by go_num, HP2.out, hB0.out.trans (p1.mono hB0.out.size)⟩
      · have hD2 := Lib.hid (HDu.out rfl)
        clear HDu HPu
        go_wp2_with fail
        go_roundw
        case rel => exact ⟨j, by omega, by go_num, hD2, p1⟩
        case measure => first | (simp [intOf]; done) | (simp [intOf]; omega)
set_option maxRecDepth 100000 in
set_option maxHeartbeats 2000000 in
theorem read_any (A : Option Addr) (n c : Nat) (vs : List VerL) (t : StL) (w : World) (B : Nat) (hR : RdVs w B A n vs) (hB : B ≤ w.heap.size) (hb : n ≤ 1000) (hs : vs.Pairwise (fun a b => lessF a.at_ b.at_ = true)) :
    Calls Try.prog 43 #[.slice A n c, .agg #[.int .i64 t.wall, .int .i64 t.tie]] w fun e w' => e = .returned (ofV (ofF vs t)) ∧ Below w.heap.size w w' := by
  have HR := Lib.hid (fun (w1 : World) (h : Below w.heap.size w w1) j (hj : j < n) => (hR.below (h.mono hB)).at_ hj)
  have HL := Lib.hid hR.1
  have RC := Lib.hid (fun (w1 : World) (h : Below w.heap.size w w1) => reach_any A n c vs t w1 B (hR.below (h.mono hB)) (by have := h.size; omega) hb hs)
  clear hR hs
  obtain ⟨tw, tt⟩ := t
  dsimp only at RC ⊢
  have hB0 : Hid (Below w.heap.size w (w.alloc (.cells #[.int .i64 tw, .int .i64 tt] 24))) := (Below.refl _ _).alloc (Nat.le_refl _) _
  have HW := Lib.hid (show ofF vs ⟨tw, tt⟩ = match pickF vs ⟨tw, tt⟩ with | some v => if v.drop then none else some v.data | none => none from rfl)
  go_enter Try.func43, Try.ntmps43
  go_upto_region 1 with (fail)
  have k0 : Blk 24 (w.alloc (.cells #[.int .i64 tw, .int .i64 tt] 24)) w.heap.size [.int .i64 tw, .int .i64 tt] := heap_alloc_new w _
  obtain ⟨c0, c1⟩ := blk2 k0
  generalize (w.alloc (.cells #[.int .i64 tw, .int .i64 tt] 24)) = w1 at *
  go_wp2_with fail
  refine (RC.out _ hB0.out).mono ?_
  rintro e w2 ⟨k, rfl, hP, hB2⟩
  have hB12 := hB0.out.trans (hB2.mono hB0.out.size)
  have hpk := rch_of_pick hP
  have hkn : k ≤ n := by rw [← HL.out]; exact hP.1
  clear hP RC c0 c1
  rcases k with _ | j
  · rw [if_pos rfl] at hpk
    have hV : Hid (ofF vs ⟨tw, tt⟩ = none) := by rw [HW.out, hpk]; exact Lib.hid rfl
    clear hpk HW
    go_wp2_with fail
    go_ret2
    exact ⟨by rw [hV.out]; rfl, hB12⟩
  · rw [if_neg (by omega), show j + 1 - 1 = j by omega] at hpk
    obtain ⟨bv, ov, u, rfl, hbB, hu, hA⟩ := HR.out w2 hB12 j (by omega)
    rw [hu] at hpk
    have hV0 : ofF vs ⟨tw, tt⟩ = if u.drop then none else some u.data := by rw [HW.out, hpk]
    obtain ⟨a0, a1, a2, a3⟩ := at4 hA
    have hjn : ((j + 1 : Nat) : Int) - 1 = (j : Int) := by omega
    have hj0 : (((j + 1 : Nat) : Int) == 0) = false := by simp; omega
    clear hpk HW hA hu HR
    generalize u.drop = ud at *
    rcases ud with _ | _
    · have hV := Lib.hid hV0
      clear hV0
      go_wp2_with fail
      go_ret2
      exact ⟨by rw [hV.out]; rfl, hB12⟩
    · have hV := Lib.hid hV0
      clear hV0
      go_wp2_with fail
      go_ret2
      exact ⟨by rw [hV.out]; rfl, hB12⟩
/-- A piece of a slice of cells. -/
theorem rdC_sliced {w : World} {B n : Nat} {A : Option Addr} {cs : List CellL} (h : RdC w B A n cs) {p q m : Nat} (hp : p ≤ q) (hq : q ≤ n) (hm : q ≤ m) :
    ∃ A', Go.sliced A p q m 12 = .slice A' (q - p) (m - p) ∧ RdC w B A' (q - p) ((cs.take q).drop p) := by
  refine ⟨_, rfl, by rw [List.length_drop, List.length_take, h.1]; omega, fun h0 => ?_⟩
  obtain ⟨b, o, rfl, hb, hc⟩ := h.2 (by omega)
  rw [if_neg (by omega)]
  refine ⟨b, o + p * 12, ?_, hb, fun j x hx => ?_⟩
  · by_cases h1 : p = 0
    · subst h1; simp [Addr.add]
    · have h4 : ¬ p * 12 = 0 := by omega
      simp [Addr.add, h4]
  · rw [List.getElem?_drop, List.getElem?_take] at hx
    split at hx
    · have := hc _ x hx
      rw [show o + (p + j) * 12 = o + p * 12 + j * 12 by omega] at this
      exact this
    · cases hx
theorem run_sizeOf_cell {P : Program} {w : World} {e : TypeId} {i : TypeInfo} (h : P.info? e = some i) (h1 : i.size = 12) : (sizeOf e).run P w = .ok 12 w := by
  simp [sizeOf, typeInfo, h, h1]
/-- 's[lo:hi]' on cells. -/
theorem wpList_cells_lh {w : World} {ops : Array Oper} {rest : List Oper} {o : Oper} {a : Act} {Q : Exit → Act → World → Prop} (hgd : o.guard = none) (s lo hi : Operand) (ho : o.op = .slice 31 s (some lo) (some hi) none)
    (A : Option Addr) (n c B : Nat) (cs : List CellL) (hs : a.eval s = .slice A n c) (hR : RdC w B A n cs) (kl kh : IntKind) (L H : Int) (p q : Nat) (hlo : a.eval lo = .int kl L) (hhi : a.eval hi = .int kh H) (hL : L = (p : Int)) (hH : H = (q : Int)) (hpq : p ≤ q) (hq : q ≤ n) (hnc : n ≤ c)
    (h : ∀ A' c', RdC w B A' (q - p) ((cs.take q).drop p) → wpList Try.prog ops Q rest (a.put o.dst (.slice A' (q - p) c')) w) : wpList Try.prog ops Q (o :: rest) a w := by
  refine wpList_plain hgd fun K hK => ?_
  obtain ⟨i, hi', hz0, hz1, hz2⟩ := info_parts infoC
  obtain ⟨A', e1, hR'⟩ := rdC_sliced hR hpq hq (Nat.le_trans hq hnc)
  have he := elem_k (P := Try.prog) Try.underlying31
  have hrun := run_slice_lh (P := Try.prog) w 31 A n c (by rw [he]; exact Try.underlying31) kl kh L H (by omega) (by omega) (by omega)
  rw [he, run_sizeOf_cell hi' hz1, hL, hH, Int.toNat_natCast, Int.toNat_natCast] at hrun
  have hat := run_sliceAt_slice (P := Try.prog) w 31 (.slice A n c) (some (.int kl L)) (some (.int kh H)) none (by rw [he]; exact Try.underlying31)
  rw [hL, hH] at hat
  unfold Oper.wp execOp
  simp only [ho, Option.map_some, Option.map_none, hs, hlo, hhi, hL, hH, Sem.run_bind, hat, hrun, Result.andThen_ok, Sem.run_pure, e1]
  exact hK _ _ (h A' _ hR')
theorem le_max_pos {cs : List CellL} {lo hi : ByteArray} {p q : Nat} (hp : Pos cs lo p) (hq : Pos cs hi q) : max p q ≤ cs.length := Nat.max_le.2 ⟨hp.1, hq.1⟩
set_option maxRecDepth 100000 in
set_option maxHeartbeats 2000000 in
theorem within_any (A : Option Addr) (n c : Nat) (cs : List CellL) (lo hi : ByteArray) (w : World) (B : Nat) (hR : RdC w B A n cs) (hB : B ≤ w.heap.size) (hb : n ≤ 1000) (hs : cs.Pairwise (fun a b => sl a.key b.key = true)) (hnc : n ≤ c) :
    Calls Try.prog 42 #[.slice A n c, .agg #[.string lo, .string hi]] w fun e w' => ∃ (A' : Option Addr) (c' m : Nat) (ds : List CellL), e = .returned (.slice A' m c') ∧ ds = (cs.filter fun x => inF x.key lo hi) ∧ m ≤ n ∧ RdC w' B A' m ds ∧ Below w.heap.size w w' := by
  have HR := Lib.hid (fun (w1 : World) (h : Below w.heap.size w w1) => hR.below (h.mono hB))
  have HL := Lib.hid hR.1
  have FI := Lib.hid (fun (k : ByteArray) (w1 : World) (h : Below w.heap.size w w1) => find_any A n c cs k w1 B (hR.below (h.mono hB)) (by have := h.size; omega) (by omega) hs)
  have hB0 : Hid (Below w.heap.size w (w.alloc (.cells #[.string lo, .string hi] 26))) := (Below.refl _ _).alloc (Nat.le_refl _) _
  have k0 : Blk 26 (w.alloc (.cells #[.string lo, .string hi] 26)) w.heap.size [.string lo, .string hi] := heap_alloc_new w _
  clear hR hs
  go_enter Try.func42, Try.ntmps42
  go_upto_region 1 with (fail)
  obtain ⟨c0, c1⟩ := blk2 k0
  have hk0 := k0.lt
  generalize (w.alloc (.cells #[.string lo, .string hi] 26)) = w1 at *
  go_wp2_with fail
  refine (FI.out lo _ hB0.out).mono ?_
  rintro e w2 ⟨p, b, rfl, hP, hB2⟩
  obtain ⟨c2, c3⟩ := blk2 (k0.below hB2 hk0)
  have hB12 := hB0.out.trans (hB2.mono hB0.out.size)
  have HP := Lib.hid hP.1
  clear hP c0 c1
  go_wp2_with fail
  refine (FI.out hi _ hB12).mono ?_
  rintro e w3 ⟨q, b2, rfl, hQ, hB3⟩
  have hB13 := hB12.trans (hB3.mono hB12.size)
  have hM := le_max_pos HP.out hQ.1
  have hW := Lib.hid (within_eq HP.out hQ.1)
  have hRd := HR.out _ hB13
  have hpn : p ≤ n := by rw [← HL.out]; exact HP.out.1
  have hqn : q ≤ n := by rw [← HL.out]; exact hQ.1.1
  clear hQ FI HR c2 c3
  go_upto_region 3 with (fail)
  obtain ⟨z, hz⟩ : ∃ z, max p q = z := ⟨_, rfl⟩
  rw [HL.out, hz] at hM
  rw [hz] at hW
  have hpz : p ≤ z := by omega
  rcases Nat.lt_or_ge p q with hpq | hpq
  · obtain rfl : z = q := by omega
    clear hz
    go_wp2_with (with_reducible refine wpList_cells_lh rfl (.tmp 23) (.tmp 24) (.tmp 27) rfl A n c B cs rfl hRd .i64 .i64 _ _ p z rfl rfl ?hLa ?hHa hpz hM hnc ?_)
    case hLa => rfl
    case hHa => first | rfl | omega
    intro A' c' hR2
    obtain ⟨m, hm⟩ : ∃ m, z - p = m := ⟨_, rfl⟩
    have hmn : m ≤ n := by omega
    rw [hm] at hR2 ⊢
    have HR2 := Lib.hid hR2
    clear hm hR2
    go_wp2_with fail
    go_ret
    exact ⟨A', c', m, _, rfl, hW.out, hmn, HR2.out, hB13⟩
  · obtain rfl : z = p := by omega
    clear hz
    obtain ⟨y, hy⟩ : ∃ y, y = z := ⟨_, rfl⟩
    have HY : Hid (y = z) := hy
    have hW2 : Hid ((cs.take y).drop z = cs.filter fun x => inF x.key lo hi) := by rw [hy]; exact hW
    have hyn : y ≤ n := by omega
    have hzy : z ≤ y := by omega
    have hyz : (z : Int) = (y : Int) := by omega
    have HYZ := Lib.hid hyz
    clear hy hyz hW
    go_wp2_with (with_reducible refine wpList_cells_lh rfl (.tmp 23) (.tmp 24) (.tmp 27) rfl A n c B cs rfl hRd .i64 .i64 _ _ z y rfl rfl ?hLb ?hHb hzy hyn hnc ?_)
    case hLb => rfl
    case hHb => exact HYZ.out
    intro A' c' hR2
    have HR2 := Lib.hid hR2
    have hmn : y - z ≤ n := by omega
    clear hR2
    go_wp2_with fail
    go_ret
    exact ⟨A', c', y - z, _, rfl, hW2.out, hmn, HR2.out, hB13⟩
theorem holds_any (b : TrL) (x : CellL) (sv : Value) (w : World) : Calls Try.prog 44 #[.agg #[.int .i64 b.node, .int .i64 b.life, .int .i64 b.seq, .int .i64 b.att], .agg #[.string x.key, sv, .bool x.locked, .int .i64 x.lock.by_.node, .int .i64 x.lock.by_.life, .int .i64 x.lock.by_.seq, .int .i64 x.lock.by_.att, .int .i64 x.lock.home, .int .i64 x.lock.at_.wall, .int .i64 x.lock.at_.tie, .bool x.lock.drop, .string x.lock.data]] w fun e w' => e = .returned (.bool (x.locked && decide (x.lock.by_ = b))) ∧ Below w.heap.size w w' := by
  have HB : Hid (Below w.heap.size w ((w.alloc (.cells #[.int .i64 b.node, .int .i64 b.life, .int .i64 b.seq, .int .i64 b.att] 28)).alloc (.cells #[.string x.key, sv, .bool x.locked, .int .i64 x.lock.by_.node, .int .i64 x.lock.by_.life, .int .i64 x.lock.by_.seq, .int .i64 x.lock.by_.att, .int .i64 x.lock.home, .int .i64 x.lock.at_.wall, .int .i64 x.lock.at_.tie, .bool x.lock.drop, .string x.lock.data] 45))) := ((Below.refl _ _).alloc (Nat.le_refl _) _).alloc (by simp) _
  have he := fun w => eq_tr x.lock.by_ b w
  generalize decide (x.lock.by_ = b) = d at *
  cases hl : x.locked with
  | false =>
    rw [hl] at HB
    go_enter Try.func44, Try.ntmps44
    go_wp2_with fail
    go_ret
    exact ⟨rfl, HB.out⟩
  | true =>
    rw [hl] at HB
    go_enter Try.func44, Try.ntmps44
    go_wp2_with fail
    go_ret
    exact ⟨rfl, HB.out⟩
/-- own: the versions in new memory. -/
theorem own_any (A : Option Addr) (n c : Nat) (vs : List VerL) (w : World) (B : Nat) (hR : RdVs w B A n vs) (hb : n ≤ 1000) :
    Calls Try.prog 40 #[.slice A n c] w fun e w' => ∃ (A' : Option Addr) (c' : Nat), e = .returned (.slice A' n c') ∧ OwnVs w' w.heap.size (.slice A' n c') vs ∧ Below w.heap.size w w' := by
  have hE : OwnVs w w.heap.size (.slice none 0 0) [] := World.ownsRow_nil w w.heap.size _ 4
  go_enter Try.func40, Try.ntmps40
  go_wp2_with (at_builtin; with_reducible refine wpList_append_vers rfl (.const (.slice none 0 0)) (.tmp 3) rfl w.heap.size _ 0 0 [] rfl rfl hE B A n c vs rfl hR ?hb1 ?hbase1 ?_)
  case hb1 => omega
  case hbase1 => exact Nat.le_refl _
  intro A2 c2 z hO2 hB2 _
  (try simp only [Nat.zero_add, List.nil_append] at hO2)
  have HO := Lib.hid hO2
  clear hO2 hE hR
  (try simp only [Nat.zero_add])
  go_wp2_with fail
  go_ret
  exact ⟨A2, c2, rfl, HO.out, hB2⟩
theorem decided_any (l : LockL) (w : World) : Calls Try.prog 46 #[.agg #[.int .i64 l.by_.node, .int .i64 l.by_.life, .int .i64 l.by_.seq, .int .i64 l.by_.att, .int .i64 l.home, .int .i64 l.at_.wall, .int .i64 l.at_.tie, .bool l.drop, .string l.data]] w fun e w' => e = .returned (.agg #[.int .i64 l.at_.wall, .int .i64 l.at_.tie, .bool l.drop, .string l.data]) ∧ Below w.heap.size w w' := by
  go_enter Try.func46, Try.ntmps46
  go_wp2_with fail
  (try simp only [Exit.inBlock, Exit.then])
  refine bodyPost_ret (by simp [results, Try.results46, go_sem]; try rfl) rfl ?_
  exact ⟨rfl, ((Below.refl _ _).alloc (Nat.le_refl _) _).alloc (by simp) _⟩
end Go.Proofs.Ytlkhmpfdajefiaa.mvi
