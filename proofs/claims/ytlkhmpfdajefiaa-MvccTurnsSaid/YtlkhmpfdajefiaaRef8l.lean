/- What the document's Lock (antipoderef8) comes to. Conditions: few cells, few versions, in order. -/
import Derived.Test.YtlkhmpfdajefiaaRef8j
import Derived.Test.YtlkhmpfdajefiaaJoin1
import Derived.Test.YtlkhmpfdajefiaaJoin0
import Derived.Deep.CutBlock
namespace Go.Proofs.Ytlkhmpfdajefiaa.ref8
open Go Go.RowKit Go.Proofs.Ytlkhmpfdajefiaa.kit Go.Proofs.Ytlkhmpfdajefiaa.nums Go.Proofs.Ytlkhmpfdajefiaa.st Go.Proofs.Ytlkhmpfdajefiaa.mv
set_option linter.unusedVariables false

theorem idx_cases (k : ByteArray) : ∀ (cs : List CellL) (j : Nat), (∃ i x, cs[i]? = some x ∧ x.key = k ∧ idxF k cs j = ((j + i : Nat) : Int)) ∨ (idxF k cs j = -1 ∧ ∀ x ∈ cs, x.key ≠ k)
  | [], j => .inr ⟨rfl, fun x hx => by cases hx⟩
  | y :: r, j => by
    unfold idxF
    by_cases h : y.key = k
    · rw [if_pos h]
      exact .inl ⟨0, y, rfl, h, rfl⟩
    · rw [if_neg h]
      rcases idx_cases k r (j + 1) with ⟨i, x, hx, hk, e⟩ | ⟨e, hn⟩
      · exact .inl ⟨i + 1, x, hx, hk, by rw [e]; congr 1; omega⟩
      · refine .inr ⟨e, fun x hx => ?_⟩
        rcases List.mem_cons.1 hx with rfl | hx
        · exact h
        · exact hn x hx
theorem blk3 {E : TypeId} {w : World} {g : Nat} {a0 a1 a2 : Value} (h : Blk E w g [a0, a1, a2]) : w.cell? ⟨g, 0, none⟩ = some a0 ∧ w.cell? ⟨g, 1, none⟩ = some a1 ∧ w.cell? ⟨g, 2, none⟩ = some a2 := ⟨h.cell 0, h.cell 1, h.cell 2⟩
section
variable {w w' : World} {base vb b e : Nat} {l : List Value}
theorem own2_al {v : Value} {cs : List CellL} (h : OwnCs2 w base vb v cs) (hv : vb ≤ base) (o : Obj) : OwnCs2 (w.alloc o) base vb v cs := h.below hv ((Below.refl _ _).alloc (Nat.le_refl _) o)
/-- Cells that lie at the head of a block. -/
def New (w : World) (b : Nat) (l : List Value) : Prop := b < w.heap.size ∧ At w b 0 l
theorem New.al (h : New w b l) (o : Obj) : New (w.alloc o) b l := ⟨by have := h.1; simp; omega, h.2.below h.1 ((Below.refl _ _).alloc (Nat.le_refl _) o)⟩
theorem New.grown (h : New w b l) (hG : w.grownBy w' (some e)) (hne : b ≠ e) : New w' b l :=
  have hb := hG.block b h.1 (fun he => hne (Option.some.inj he))
  ⟨Nat.lt_of_lt_of_le h.1 hG.size, h.2.same hb⟩
theorem own_drew {v : Value} {cs : List CellL} (h : OwnCs w base v cs) : OwnCs w.drew base v cs := h.keep fun q _ _ => rfl
theorem size_al (w : World) (o : Obj) : (w.alloc o).heap.size = w.heap.size + 1 := by simp
theorem size_dr (w : World) : w.drew.heap.size = w.heap.size := rfl
end
set_option maxRecDepth 100000 in
set_option maxHeartbeats 4000000 in
theorem lock_any (A : Option Addr) (n c : Nat) (cs : List CellL) (k : ByteArray) (dr : Bool) (da : ByteArray) (l : LockL) (w : World) (B : Nat) (hR : RdC w B A n cs) (hB : B ≤ w.heap.size) (hf : Few cs) (hok : okC cs) :
    Calls Try.prog 29 #[.slice A n c, .agg #[.string k, .bool dr, .string da], .agg #[.int .i64 l.by_.node, .int .i64 l.by_.life, .int .i64 l.by_.seq, .int .i64 l.by_.att, .int .i64 l.home, .int .i64 l.at_.wall, .int .i64 l.at_.tie, .bool l.drop, .string l.data]] w (RetCs w (lockF k (lockOf dr da l) cs)) := by
  obtain rfl : cs.length = n := hR.1
  have CP := Lib.hid (fun (w1 : World) (h : Below w.heap.size w w1) => copy_any A cs.length c cs w1 B (hR.below (h.mono hB)) (by have := h.size; omega) hf)
  have hn2 := hf.1
  have HP := Lib.hid hok.1
  have HQ : Hid (∃ z, z = lockF k (lockOf dr da l) cs) := ⟨_, rfl⟩
  clear hR hf hok HQ
  have hB0 : Hid (Below w.heap.size w ((w.alloc (.cells #[.string k, .bool dr, .string da] 36)).alloc (.cells #[.int .i64 l.by_.node, .int .i64 l.by_.life, .int .i64 l.by_.seq, .int .i64 l.by_.att, .int .i64 l.home, .int .i64 l.at_.wall, .int .i64 l.at_.tie, .bool l.drop, .string l.data] 38))) := ((Below.refl _ _).alloc (Nat.le_refl _) _).alloc (by simp) _
  have k0 : Hid (Blk 36 ((w.alloc (.cells #[.string k, .bool dr, .string da] 36)).alloc (.cells #[.int .i64 l.by_.node, .int .i64 l.by_.life, .int .i64 l.by_.seq, .int .i64 l.by_.att, .int .i64 l.home, .int .i64 l.at_.wall, .int .i64 l.at_.tie, .bool l.drop, .string l.data] 38)) w.heap.size [.string k, .bool dr, .string da]) := Blk.alloc (heap_alloc_new w _) _
  have k1 : Hid (Blk 38 ((w.alloc (.cells #[.string k, .bool dr, .string da] 36)).alloc (.cells #[.int .i64 l.by_.node, .int .i64 l.by_.life, .int .i64 l.by_.seq, .int .i64 l.by_.att, .int .i64 l.home, .int .i64 l.at_.wall, .int .i64 l.at_.tie, .bool l.drop, .string l.data] 38)) (w.heap.size + 1) [.int .i64 l.by_.node, .int .i64 l.by_.life, .int .i64 l.by_.seq, .int .i64 l.by_.att, .int .i64 l.home, .int .i64 l.at_.wall, .int .i64 l.at_.tie, .bool l.drop, .string l.data]) := by
    have := heap_alloc_new (w.alloc (.cells #[.string k, .bool dr, .string da] 36)) (.cells #[.int .i64 l.by_.node, .int .i64 l.by_.life, .int .i64 l.by_.seq, .int .i64 l.by_.att, .int .i64 l.home, .int .i64 l.at_.wall, .int .i64 l.at_.tie, .bool l.drop, .string l.data] 38)
    simpa [Blk, Hid] using this
  go_enter Try.func29, Try.ntmps29
  go_upto_region 1 with (fail)
  have C1 := Lib.hid (CP.out _ hB0.out)
  clear CP
  generalize ((w.alloc (.cells #[.string k, .bool dr, .string da] 36)).alloc (.cells #[.int .i64 l.by_.node, .int .i64 l.by_.life, .int .i64 l.by_.seq, .int .i64 l.by_.att, .int .i64 l.home, .int .i64 l.at_.wall, .int .i64 l.at_.tie, .bool l.drop, .string l.data] 38)) = w1 at *
  go_wp2_with fail
  refine C1.out.mono ?_
  rintro e w2 ⟨A1, c1, rfl, hO1, hB2⟩
  have hs2 := hB2.size
  have hs1 : w.heap.size + 1 < w1.heap.size := k1.out.lt
  have k0' := k0.out.below hB2 (by omega)
  have k1' := k1.out.below hB2 hs1
  have hB12 := hB0.out.trans (hB2.mono hB0.out.size)
  clear k0 k1 hB0 C1
  obtain ⟨t0, t1, t2⟩ := blk3 k0'
  obtain ⟨d0, d1, d2, d3, d4, d5, d6, d7, d8⟩ := blk9 k1'
  have df := fun i => k1'.frozen i
  go_wp2_with fail
  go_region
  have hO2 : OwnCs (((w2.setCell ⟨w.heap.size + 1, 7, none⟩ (.bool dr)).setCell ⟨w.heap.size + 1, 8, none⟩ (.string da)).drew) w1.heap.size (.slice A1 cs.length c1) cs := hO1.keep fun q hq _ => (Below.heap_setCell _ ⟨w.heap.size + 1, 8, none⟩ _ q (show q ≠ w.heap.size + 1 by omega)).trans (Below.heap_setCell w2 ⟨w.heap.size + 1, 7, none⟩ _ q (show q ≠ w.heap.size + 1 by omega))
  have hBz : Below w.heap.size w (((w2.setCell ⟨w.heap.size + 1, 7, none⟩ (.bool dr)).setCell ⟨w.heap.size + 1, 8, none⟩ (.string da)).drew) := ((hB12.setCell (p := ⟨w.heap.size + 1, 7, none⟩) (show w.heap.size ≤ w.heap.size + 1 by omega) _).setCell (p := ⟨w.heap.size + 1, 8, none⟩) (show w.heap.size ≤ w.heap.size + 1 by omega) _).drew
  have k0z : Blk 36 (((w2.setCell ⟨w.heap.size + 1, 7, none⟩ (.bool dr)).setCell ⟨w.heap.size + 1, 8, none⟩ (.string da)).drew) w.heap.size [.string k, .bool dr, .string da] := (k0'.far (p := ⟨w.heap.size + 1, 7, none⟩) (show w.heap.size ≠ w.heap.size + 1 by omega) _).far (p := ⟨w.heap.size + 1, 8, none⟩) (show w.heap.size ≠ w.heap.size + 1 by omega) _
  have k1z : Blk 38 (((w2.setCell ⟨w.heap.size + 1, 7, none⟩ (.bool dr)).setCell ⟨w.heap.size + 1, 8, none⟩ (.string da)).drew) (w.heap.size + 1) [.int .i64 l.by_.node, .int .i64 l.by_.life, .int .i64 l.by_.seq, .int .i64 l.by_.att, .int .i64 l.home, .int .i64 l.at_.wall, .int .i64 l.at_.tie, .bool dr, .string da] := (k1'.set_ 7 (.bool dr)).set_ 8 (.string da)
  have hsz : w1.heap.size ≤ ((w2.setCell ⟨w.heap.size + 1, 7, none⟩ (.bool dr)).setCell ⟨w.heap.size + 1, 8, none⟩ (.string da)).drew.heap.size := by simpa using hs2
  clear t0 t1 t2 d0 d1 d2 d3 d4 d5 d6 d7 d8 df k0' k1' hO1 hB2 hB12
  generalize ((w2.setCell ⟨w.heap.size + 1, 7, none⟩ (.bool dr)).setCell ⟨w.heap.size + 1, 8, none⟩ (.string da)).drew = wz at *
  obtain ⟨t0, t1, t2⟩ := blk3 k0z
  obtain ⟨d0, d1, d2, d3, d4, d5, d6, d7, d8⟩ := blk9 k1z
  have df := fun i => k1z.frozen i
  simp only [Exit.then]
  refine (‹∀ (a : Act) (z : World), Code.wp Try.prog _ _ a z → _›) _ _ ?_
  go_upto_if 18 with (fail)
  go_cut [18] from 200 (fun bv wx => bv = .bool dr ∧ Hid (Blk 38 wx (w.heap.size + 1) [.int .i64 l.by_.node, .int .i64 l.by_.life, .int .i64 l.by_.seq, .int .i64 l.by_.att, .int .i64 l.home, .int .i64 l.at_.wall, .int .i64 l.at_.tie, .bool dr, .string (if dr then noText else da)]) ∧ Hid (Blk 36 wx w.heap.size [.string k, .bool dr, .string da]) ∧ OwnCs wx w1.heap.size (.slice A1 cs.length c1) cs ∧ Below w.heap.size w wx ∧ w1.heap.size ≤ wx.heap.size)
  case first =>
    rcases dr with _ | _
    · go_wp2_with fail
      go_meet
      case rel => exact ⟨rfl, k1z, k0z, hO2, hBz, hsz⟩
    · go_wp2_with fail
      go_meet
      case rel => exact ⟨rfl, k1z.set_ 8 _, k0z.far (p := ⟨w.heap.size + 1, 8, none⟩) (show w.heap.size ≠ w.heap.size + 1 by omega) _, hO2.keep (fun q hq _ => Below.heap_setCell _ ⟨w.heap.size + 1, 8, none⟩ _ q (show q ≠ w.heap.size + 1 by omega)), hBz.setCell (p := ⟨w.heap.size + 1, 8, none⟩) (show w.heap.size ≤ w.heap.size + 1 by omega) _, by simpa using hsz⟩
  case rest =>
    obtain ⟨rfl, K1, K0, hO3, hB3, hs3⟩ := hcut
    obtain ⟨A3, c3, e3, hc3, hm3, hR3⟩ := hO3.rd
    simp only [Value.slice.injEq] at e3
    obtain ⟨rfl, _, rfl⟩ := e3
    clear t0 t1 t2 d0 d1 d2 d3 d4 d5 d6 d7 d8 df k0z k1z hO2 hBz hsz
    have T0 := K0.out.cell 0
    simp only [List.getElem?_cons_zero] at T0
    have FI := Lib.hid (find_any A1 cs.length c1 cs k wc wc.heap.size hR3 (by omega))
    clear hR3
    have HC := Lib.hid (idx_cases k cs 0)
    generalize hI : idxF k cs 0 = I at *
    clear hI
    obtain ⟨wo, hwo⟩ : ∃ wo, wo = wc := ⟨_, rfl⟩
    subst hwo
    go_wp2_with fail
    refine FI.out.mono ?_
    rintro e w4 ⟨rfl, rfl⟩
    clear FI
    go_upto_if 25 with (fail)
    go_cut [7, 8] from 200 (fun ov iv wx => ∃ (A' : Option Addr) (c' n' i bs : Nat) (ds : List CellL) (x : CellL), ov = .slice A' n' c' ∧ iv = .int .i64 i ∧ i < n' ∧ n' ≤ 1001 ∧ Hid (ds.length = n') ∧ Hid (ds[i]? = some x) ∧ Hid (ds.set i { x with locked := true, lock := lockOf dr da l } = lockF k (lockOf dr da l) cs) ∧ Hid (w1.heap.size ≤ bs) ∧ OwnCs2 wx bs w1.heap.size (.slice A' n' c') ds ∧ Hid (Blk 38 wx (w.heap.size + 1) [.int .i64 l.by_.node, .int .i64 l.by_.life, .int .i64 l.by_.seq, .int .i64 l.by_.att, .int .i64 l.home, .int .i64 l.at_.wall, .int .i64 l.at_.tie, .bool dr, .string (if dr then noText else da)]) ∧ Below w.heap.size w wx)
    case first =>
      rcases HC.out with ⟨i, x, hx, hk, e⟩ | ⟨e, hne⟩
      · rw [Nat.zero_add] at e
        subst e
        have hi := (List.getElem?_eq_some_iff.1 hx).1
        have HL := Lib.hid (lock_at k (lockOf dr da l) cs HP.out i x hx hk).symm
        have HX := Lib.hid hx
        clear hx hk HC
        go_wp2_with fail
        go_meet
        case rel => exact ⟨A1, c1, cs.length, i, w1.heap.size, cs, x, rfl, rfl, hi, by omega, Lib.hid rfl, HX, HL, Nat.le_refl _, hO3.two, K1, hB3⟩
      · subst e
        have HNE := Lib.hid hne
        clear hne HC
        have cutw := Lib.hid (fun (p : Nat) (hp : p ≤ cs.length) => hO3.cuts rfl hp)
        go_upto_block 0 with (fail)
        go_cut [8] from 200 (fun iv wx => ∃ p : Nat, p ≤ cs.length ∧ iv = .int .i64 p ∧ Hid (lockF k (lockOf dr da l) cs = cs.take p ++ ⟨k, [], true, lockOf dr da l⟩ :: cs.drop p) ∧ Below wo.heap.size wo wx)
        case first =>
          go_wp2_with fail
          go_loopw [8] (fun iv wr => ∃ j : Nat, j ≤ cs.length ∧ iv = .int .i64 j ∧ Hid (∀ (i : Nat) (x : CellL), i < j → cs[i]? = some x → sl x.key k = true) ∧ Below wo.heap.size wo wr) (fun iv _ => cs.length - (intOf iv).toNat)
          case atStart => exact ⟨0, Nat.zero_le _, rfl, fun i x h => absurd h (by omega), Below.refl _ _⟩
          case round =>
            obtain ⟨j, hj, rfl, hS, hBr⟩ := hrel
            by_cases hlt : j < cs.length
            · obtain ⟨b, x, sv, rfl, hb1, hb2, hx, hV, hA⟩ := hO3.at_ hlt
              have HS : Hid (∀ wq, Below wo.heap.size wo wq → wq.cell? ⟨w.heap.size, 0, none⟩ = some (.string k) ∧ wq.cell? ⟨b, j * 12, none⟩ = some (.string x.key)) := fun wq hq => ⟨(K0.out.below hq (by omega)).cell 0, (hA.below hb2 hq) 0 _ rfl⟩
              have p0 : Below wo.heap.size wo wr.drew := hBr.drew
              have htl := text_less x.key k
              have HX := Lib.hid hx
              clear hx hA hV
              by_cases hs : sl x.key k = true
              · rw [hs] at htl
                have HS2 : Hid (∀ (i : Nat) (y : CellL), i < j + 1 → cs[i]? = some y → sl y.key k = true) := fun i y hi hy => by
                  rcases Nat.lt_succ_iff_lt_or_eq.1 hi with h | rfl
                  · exact hS.out i y h hy
                  · rw [HX.out] at hy; obtain rfl := Option.some.inj hy; exact hs
                clear hs hS
                go_upto_region 8 with (fail)
                refine wp_region_held_drew (S := fun wq => wq.cell? ⟨w.heap.size, 0, none⟩ = some (.string k) ∧ wq.cell? ⟨b, j * 12, none⟩ = some (.string x.key)) (by kernel_rfl) ?s_0 (fun hHeld => ?_)
                case s_0 => exact HS.out _ p0
                refine tk 0 { dst := some 26, op := .move (.tmp 8), type := 3, pos := "ref.go:112", after := #[], guard := none } _ ?_
                try simp only [Act.put, List.setIfInBounds_toArray, List.set_cons_zero, List.set_cons_succ]
                refine tk 1 { dst := some 27, op := .move (.tmp 7), type := 31, pos := "ref.go:112", after := #[], guard := none } _ ?_
                try simp only [Act.put, List.setIfInBounds_toArray, List.set_cons_zero, List.set_cons_succ]
                refine tk 2 { dst := some 28, op := .call { callee := .builtin .len, args := #[.tmp 27], argTypes := #[31] }, type := 3, pos := "ref.go:112", after := #[{ on := 1, ground := .data }], guard := none } _ ?_
                try simp only [Act.put, List.setIfInBounds_toArray, List.set_cons_zero, List.set_cons_succ]
                refine tk 3 { dst := some 29, op := .binOp .lss 3 (.tmp 26) (.tmp 28) 3, type := 4, pos := "ref.go:112", after := #[{ on := 0, ground := .data }, { on := 2, ground := .data }], guard := none } _ ?_
                try simp only [Act.put, List.setIfInBounds_toArray, List.set_cons_zero, List.set_cons_succ]
                refine tk 4 { dst := some 30, op := .move (.tmp 29), type := 4, pos := "ref.go:112", after := #[{ on := 3, ground := .data }], guard := none } _ ?_
                try simp only [Act.put, List.setIfInBounds_toArray, List.set_cons_zero, List.set_cons_succ]
                refine tk 5 { dst := some 31, op := .move (.tmp 7), type := 31, pos := "ref.go:112", after := #[{ on := 4, ground := .guard }], guard := some (4, true) } _ ?_
                try simp only [Act.put, List.setIfInBounds_toArray, List.set_cons_zero, List.set_cons_succ]
                refine tk 6 { dst := some 32, op := .move (.tmp 8), type := 3, pos := "ref.go:112", after := #[{ on := 4, ground := .guard }], guard := some (4, true) } _ ?_
                try simp only [Act.put, List.setIfInBounds_toArray, List.set_cons_zero, List.set_cons_succ]
                refine tk 7 { dst := some 33, op := .indexAddr 31 (.tmp 31) (.tmp 32), type := 0, pos := "ref.go:112", after := #[{ on := 5, ground := .data }, { on := 6, ground := .data }, { on := 4, ground := .guard }], guard := some (4, true) } _ ?_
                try simp only [Act.put, List.setIfInBounds_toArray, List.set_cons_zero, List.set_cons_succ]
                refine tk 8 { dst := some 34, op := .fieldAddr 45 (.tmp 33) 0, type := 0, pos := "ref.go:112", after := #[{ on := 7, ground := .data }, { on := 4, ground := .guard }], guard := some (4, true) } _ ?_
                try simp only [Act.put, List.setIfInBounds_toArray, List.set_cons_zero, List.set_cons_succ]
                refine tk 9 { dst := some 35, op := .load 9 (.tmp 34), type := 9, pos := "ref.go:112", after := #[{ on := 8, ground := .data }, { on := 4, ground := .guard }], guard := some (4, true) } _ ?_
                try simp only [Act.put, List.setIfInBounds_toArray, List.set_cons_zero, List.set_cons_succ]
                refine tk 10 { dst := some 36, op := .fieldAddr 36 (.tmp 4) 0, type := 0, pos := "ref.go:112", after := #[{ on := 4, ground := .guard }], guard := some (4, true) } _ ?_
                try simp only [Act.put, List.setIfInBounds_toArray, List.set_cons_zero, List.set_cons_succ]
                refine tk 11 { dst := some 37, op := .load 9 (.tmp 36), type := 9, pos := "ref.go:112", after := #[{ on := 10, ground := .data }, { on := 4, ground := .guard }], guard := some (4, true) } _ ?_
                try simp only [Act.put, List.setIfInBounds_toArray, List.set_cons_zero, List.set_cons_succ]
                refine tk 12 { dst := some 38, op := .binOp .lss 9 (.tmp 35) (.tmp 37) 9, type := 4, pos := "ref.go:112", after := #[{ on := 9, ground := .data }, { on := 11, ground := .data }, { on := 4, ground := .guard }], guard := some (4, true) } _ ?_
                try simp only [Act.put, List.setIfInBounds_toArray, List.set_cons_zero, List.set_cons_succ]
                refine tk 13 { dst := some 39, op := .pick (.tmp 30) (.tmp 38) (.const (.bool false)), type := 4, pos := "ref.go:112", after := #[{ on := 4, ground := .data }, { on := 12, ground := .data }], guard := none } _ ?_
                try simp only [Act.put, List.setIfInBounds_toArray, List.set_cons_zero, List.set_cons_succ]
                refine wpAnyH_done (by kernel_rfl) ?_ _
                go_wp2_with fail
                go_roundw
                case rel => exact ⟨j + 1, by omega, by go_num, HS2, p0⟩
                case measure => simp [intOf]; omega
              · have hs' : sl x.key k = false := by simpa using hs
                rw [hs'] at htl
                have HL := Lib.hid (lock_new k (lockOf dr da l) cs HNE.out j hj hS.out (fun y hy => by rw [HX.out] at hy; obtain rfl := Option.some.inj hy; exact hs'))
                clear hs hs' hS
                go_upto_region 8 with (fail)
                refine wp_region_held_drew (S := fun wq => wq.cell? ⟨w.heap.size, 0, none⟩ = some (.string k) ∧ wq.cell? ⟨b, j * 12, none⟩ = some (.string x.key)) (by kernel_rfl) ?s_0 (fun hHeld => ?_)
                case s_0 => exact HS.out _ p0
                refine tk 0 { dst := some 26, op := .move (.tmp 8), type := 3, pos := "ref.go:112", after := #[], guard := none } _ ?_
                try simp only [Act.put, List.setIfInBounds_toArray, List.set_cons_zero, List.set_cons_succ]
                refine tk 1 { dst := some 27, op := .move (.tmp 7), type := 31, pos := "ref.go:112", after := #[], guard := none } _ ?_
                try simp only [Act.put, List.setIfInBounds_toArray, List.set_cons_zero, List.set_cons_succ]
                refine tk 2 { dst := some 28, op := .call { callee := .builtin .len, args := #[.tmp 27], argTypes := #[31] }, type := 3, pos := "ref.go:112", after := #[{ on := 1, ground := .data }], guard := none } _ ?_
                try simp only [Act.put, List.setIfInBounds_toArray, List.set_cons_zero, List.set_cons_succ]
                refine tk 3 { dst := some 29, op := .binOp .lss 3 (.tmp 26) (.tmp 28) 3, type := 4, pos := "ref.go:112", after := #[{ on := 0, ground := .data }, { on := 2, ground := .data }], guard := none } _ ?_
                try simp only [Act.put, List.setIfInBounds_toArray, List.set_cons_zero, List.set_cons_succ]
                refine tk 4 { dst := some 30, op := .move (.tmp 29), type := 4, pos := "ref.go:112", after := #[{ on := 3, ground := .data }], guard := none } _ ?_
                try simp only [Act.put, List.setIfInBounds_toArray, List.set_cons_zero, List.set_cons_succ]
                refine tk 5 { dst := some 31, op := .move (.tmp 7), type := 31, pos := "ref.go:112", after := #[{ on := 4, ground := .guard }], guard := some (4, true) } _ ?_
                try simp only [Act.put, List.setIfInBounds_toArray, List.set_cons_zero, List.set_cons_succ]
                refine tk 6 { dst := some 32, op := .move (.tmp 8), type := 3, pos := "ref.go:112", after := #[{ on := 4, ground := .guard }], guard := some (4, true) } _ ?_
                try simp only [Act.put, List.setIfInBounds_toArray, List.set_cons_zero, List.set_cons_succ]
                refine tk 7 { dst := some 33, op := .indexAddr 31 (.tmp 31) (.tmp 32), type := 0, pos := "ref.go:112", after := #[{ on := 5, ground := .data }, { on := 6, ground := .data }, { on := 4, ground := .guard }], guard := some (4, true) } _ ?_
                try simp only [Act.put, List.setIfInBounds_toArray, List.set_cons_zero, List.set_cons_succ]
                refine tk 8 { dst := some 34, op := .fieldAddr 45 (.tmp 33) 0, type := 0, pos := "ref.go:112", after := #[{ on := 7, ground := .data }, { on := 4, ground := .guard }], guard := some (4, true) } _ ?_
                try simp only [Act.put, List.setIfInBounds_toArray, List.set_cons_zero, List.set_cons_succ]
                refine tk 9 { dst := some 35, op := .load 9 (.tmp 34), type := 9, pos := "ref.go:112", after := #[{ on := 8, ground := .data }, { on := 4, ground := .guard }], guard := some (4, true) } _ ?_
                try simp only [Act.put, List.setIfInBounds_toArray, List.set_cons_zero, List.set_cons_succ]
                refine tk 10 { dst := some 36, op := .fieldAddr 36 (.tmp 4) 0, type := 0, pos := "ref.go:112", after := #[{ on := 4, ground := .guard }], guard := some (4, true) } _ ?_
                try simp only [Act.put, List.setIfInBounds_toArray, List.set_cons_zero, List.set_cons_succ]
                refine tk 11 { dst := some 37, op := .load 9 (.tmp 36), type := 9, pos := "ref.go:112", after := #[{ on := 10, ground := .data }, { on := 4, ground := .guard }], guard := some (4, true) } _ ?_
                try simp only [Act.put, List.setIfInBounds_toArray, List.set_cons_zero, List.set_cons_succ]
                refine tk 12 { dst := some 38, op := .binOp .lss 9 (.tmp 35) (.tmp 37) 9, type := 4, pos := "ref.go:112", after := #[{ on := 9, ground := .data }, { on := 11, ground := .data }, { on := 4, ground := .guard }], guard := some (4, true) } _ ?_
                try simp only [Act.put, List.setIfInBounds_toArray, List.set_cons_zero, List.set_cons_succ]
                refine tk 13 { dst := some 39, op := .pick (.tmp 30) (.tmp 38) (.const (.bool false)), type := 4, pos := "ref.go:112", after := #[{ on := 4, ground := .data }, { on := 12, ground := .data }], guard := none } _ ?_
                try simp only [Act.put, List.setIfInBounds_toArray, List.set_cons_zero, List.set_cons_succ]
                refine wpAnyH_done (by kernel_rfl) ?_ _
                go_wp2_with fail
                go_meet
                case rel => exact ⟨j, hj, rfl, HL, p0⟩
            · obtain rfl : j = cs.length := by omega
              have HL := Lib.hid (lock_new k (lockOf dr da l) cs HNE.out cs.length (Nat.le_refl _) hS.out (fun y hy => by rw [List.getElem?_eq_none (Nat.le_refl _)] at hy; cases hy))
              have p0 : Below wo.heap.size wo wr.drew := hBr.drew
              clear hS
              go_upto_region 8 with (fail)
              refine wp_region_held_drew (S := fun _ => True) (by kernel_rfl) trivial (fun hHeld => ?_)
              refine tk 0 { dst := some 26, op := .move (.tmp 8), type := 3, pos := "ref.go:112", after := #[], guard := none } _ ?_
              try simp only [Act.put, List.setIfInBounds_toArray, List.set_cons_zero, List.set_cons_succ]
              refine tk 1 { dst := some 27, op := .move (.tmp 7), type := 31, pos := "ref.go:112", after := #[], guard := none } _ ?_
              try simp only [Act.put, List.setIfInBounds_toArray, List.set_cons_zero, List.set_cons_succ]
              refine tk 2 { dst := some 28, op := .call { callee := .builtin .len, args := #[.tmp 27], argTypes := #[31] }, type := 3, pos := "ref.go:112", after := #[{ on := 1, ground := .data }], guard := none } _ ?_
              try simp only [Act.put, List.setIfInBounds_toArray, List.set_cons_zero, List.set_cons_succ]
              refine tk 3 { dst := some 29, op := .binOp .lss 3 (.tmp 26) (.tmp 28) 3, type := 4, pos := "ref.go:112", after := #[{ on := 0, ground := .data }, { on := 2, ground := .data }], guard := none } _ ?_
              try simp only [Act.put, List.setIfInBounds_toArray, List.set_cons_zero, List.set_cons_succ]
              refine tk 4 { dst := some 30, op := .move (.tmp 29), type := 4, pos := "ref.go:112", after := #[{ on := 3, ground := .data }], guard := none } _ ?_
              try simp only [Act.put, List.setIfInBounds_toArray, List.set_cons_zero, List.set_cons_succ]
              refine tu 5 { dst := some 31, op := .move (.tmp 7), type := 31, pos := "ref.go:112", after := #[{ on := 4, ground := .guard }], guard := some (4, true) } ?_
              try simp only [Act.put, List.setIfInBounds_toArray, List.set_cons_zero, List.set_cons_succ]
              refine tu 6 { dst := some 32, op := .move (.tmp 8), type := 3, pos := "ref.go:112", after := #[{ on := 4, ground := .guard }], guard := some (4, true) } ?_
              try simp only [Act.put, List.setIfInBounds_toArray, List.set_cons_zero, List.set_cons_succ]
              refine tu 7 { dst := some 33, op := .indexAddr 31 (.tmp 31) (.tmp 32), type := 0, pos := "ref.go:112", after := #[{ on := 5, ground := .data }, { on := 6, ground := .data }, { on := 4, ground := .guard }], guard := some (4, true) } ?_
              try simp only [Act.put, List.setIfInBounds_toArray, List.set_cons_zero, List.set_cons_succ]
              refine tu 8 { dst := some 34, op := .fieldAddr 45 (.tmp 33) 0, type := 0, pos := "ref.go:112", after := #[{ on := 7, ground := .data }, { on := 4, ground := .guard }], guard := some (4, true) } ?_
              try simp only [Act.put, List.setIfInBounds_toArray, List.set_cons_zero, List.set_cons_succ]
              refine tu 9 { dst := some 35, op := .load 9 (.tmp 34), type := 9, pos := "ref.go:112", after := #[{ on := 8, ground := .data }, { on := 4, ground := .guard }], guard := some (4, true) } ?_
              try simp only [Act.put, List.setIfInBounds_toArray, List.set_cons_zero, List.set_cons_succ]
              refine tu 10 { dst := some 36, op := .fieldAddr 36 (.tmp 4) 0, type := 0, pos := "ref.go:112", after := #[{ on := 4, ground := .guard }], guard := some (4, true) } ?_
              try simp only [Act.put, List.setIfInBounds_toArray, List.set_cons_zero, List.set_cons_succ]
              refine tu 11 { dst := some 37, op := .load 9 (.tmp 36), type := 9, pos := "ref.go:112", after := #[{ on := 10, ground := .data }, { on := 4, ground := .guard }], guard := some (4, true) } ?_
              try simp only [Act.put, List.setIfInBounds_toArray, List.set_cons_zero, List.set_cons_succ]
              refine tu 12 { dst := some 38, op := .binOp .lss 9 (.tmp 35) (.tmp 37) 9, type := 4, pos := "ref.go:112", after := #[{ on := 9, ground := .data }, { on := 11, ground := .data }, { on := 4, ground := .guard }], guard := some (4, true) } ?_
              try simp only [Act.put, List.setIfInBounds_toArray, List.set_cons_zero, List.set_cons_succ]
              refine tk 13 { dst := some 39, op := .pick (.tmp 30) (.tmp 38) (.const (.bool false)), type := 4, pos := "ref.go:112", after := #[{ on := 4, ground := .data }, { on := 12, ground := .data }], guard := none } _ ?_
              try simp only [Act.put, List.setIfInBounds_toArray, List.set_cons_zero, List.set_cons_succ]
              refine wpAnyH_done (by kernel_rfl) ?_ _
              go_wp2_with fail
              go_meet
              case rel => exact ⟨cs.length, Nat.le_refl _, rfl, HL, p0⟩
        case rest =>
          obtain ⟨p, hp, rfl, HL, hBy⟩ := hcut
          obtain ⟨y, hy⟩ : ∃ y, y = wc := ⟨_, rfl⟩
          subst hy
          have hys := hBy.size
          have hK0 := K0.out.below hBy (by omega)
          have hK1 := K1.out.below hBy (by omega)
          have hBwy := hB3.trans (hBy.mono hB3.size)
          obtain ⟨hCT, A2, hsl, hCD⟩ := (hO3.below hBy).cuts rfl hp
          clear hO3 cutw
          have hpc : p ≤ c1 := by omega
          unfold Go.sliced at hsl
          simp only [Value.slice.injEq, and_true] at hsl
          have HSL := Lib.hid hsl
          clear hsl
          have hvb : w1.heap.size ≤ y.heap.size := by omega
          have hk0l : w.heap.size < y.heap.size := by omega
          have HLEN : Hid (((cs.take p ++ [(⟨k, [], false, zeroL⟩ : CellL)]) ++ cs.drop p).length = cs.length + 1) := by simp [Hid, List.length_take]; omega
          have HGET := Lib.hid (lock_get k cs p hp zeroL)
          have HSET : Hid ((((cs.take p ++ [(⟨k, [], false, zeroL⟩ : CellL)]) ++ cs.drop p).set p { (⟨k, [], false, zeroL⟩ : CellL) with locked := true, lock := lockOf dr da l }) = lockF k (lockOf dr da l) cs) := (lock_put k (lockOf dr da l) cs p hp zeroL).trans HL.out.symm
          have HFIN := Lib.hid (fun (wq : World) (h : Below y.heap.size y wq) => (show Hid (Blk 38 wq (w.heap.size + 1) [.int .i64 l.by_.node, .int .i64 l.by_.life, .int .i64 l.by_.seq, .int .i64 l.by_.att, .int .i64 l.home, .int .i64 l.at_.wall, .int .i64 l.at_.tie, .bool dr, .string (if dr then noText else da)]) ∧ Below w.heap.size w wq from ⟨hK1.below h (by omega), hBwy.trans (h.mono hBwy.size)⟩))
          have HSB := Lib.hid (show ∀ wq wz : World, (Below y.heap.size y wq ∧ wq.cell? ⟨w.heap.size, 0, none⟩ = some (.string k)) → Below y.heap.size wq wz → (Below y.heap.size y wz ∧ wz.cell? ⟨w.heap.size, 0, none⟩ = some (.string k)) from fun wq wz h hB => ⟨h.1.trans hB, ((h.1.trans hB).cell (p := ⟨w.heap.size, 0, none⟩) hk0l).trans (hK0.cell 0)⟩)
          have hst0 : Below y.heap.size y y.drew ∧ y.drew.cell? ⟨w.heap.size, 0, none⟩ = some (.string k) := ⟨(Below.refl _ _).drew, hK0.cell 0⟩
          have HE := Lib.hid (fun (wq : World) (h : Below y.heap.size y wq ∧ wq.cell? ⟨w.heap.size, 0, none⟩ = some (.string k)) => (show OwnCs2 (wq.alloc (.cells #[] 45)) y.heap.size w1.heap.size (.slice (some ⟨wq.heap.size, 0, none⟩) 0 0) [] ∧ (Below y.heap.size y (wq.alloc (.cells #[] 45)) ∧ (wq.alloc (.cells #[] 45)).cell? ⟨w.heap.size, 0, none⟩ = some (.string k)) from ⟨⟨[], rfl, World.ownsRow_made wq #[] 0 h.1.size (Nat.zero_le _) rfl, fun j x sv hx => by cases hx⟩, HSB.out wq _ h ((Below.refl _ _).alloc h.1.size _)⟩))
          have H8 := Lib.hid (fun (wq : World) (h : Below y.heap.size y wq ∧ wq.cell? ⟨w.heap.size, 0, none⟩ = some (.string k)) => (show New (wq.alloc (.cells #[.string k, .slice none 0 0, .bool false, .int .i64 0, .int .i64 0, .int .i64 0, .int .i64 0, .int .i64 0, .int .i64 0, .int .i64 0, .bool false, .string { data := #[] }] 45)) wq.heap.size (cellC (⟨k, [], false, zeroL⟩ : CellL) (.slice none 0 0)) ∧ (Below y.heap.size y (wq.alloc (.cells #[.string k, .slice none 0 0, .bool false, .int .i64 0, .int .i64 0, .int .i64 0, .int .i64 0, .int .i64 0, .int .i64 0, .int .i64 0, .bool false, .string { data := #[] }] 45)) ∧ (wq.alloc (.cells #[.string k, .slice none 0 0, .bool false, .int .i64 0, .int .i64 0, .int .i64 0, .int .i64 0, .int .i64 0, .int .i64 0, .int .i64 0, .bool false, .string { data := #[] }] 45)).cell? ⟨w.heap.size, 0, none⟩ = some (.string k)) from ⟨⟨by simp, at_new wq 45 _⟩, HSB.out wq _ h ((Below.refl _ _).alloc h.1.size _)⟩))
          have HA4 := Lib.hid (fun (wq : World) (e : Nat) (h : Below y.heap.size y wq ∧ wq.cell? ⟨w.heap.size, 0, none⟩ = some (.string k)) (hE : OwnCs2 wq y.heap.size w1.heap.size (.slice (some ⟨e, 0, none⟩) 0 0) []) => (show ∃ v z, (Builtin.append_ #[31, 31] 31 #[.slice (some ⟨e, 0, none⟩) 0 0, .slice A1 p c1]).run Try.prog wq = .ok v z ∧ ∃ A' c', v = .slice A' p c' ∧ OwnCs2 z y.heap.size w1.heap.size (.slice A' p c') (cs.take p) ∧ Below y.heap.size wq z ∧ wq.grownBy z (some e) from by
            obtain ⟨v, z, r1, A', c', e1, r2, r3, r4⟩ := run_append_cells wq 31 y.heap.size w1.heap.size (some ⟨e, 0, none⟩) 0 0 [] rfl hE y.heap.size A1 p c1 (cs.take p) (hCT.below h.1) (by omega) h.1.size
            rw [Nat.zero_add] at e1 r2
            rw [List.nil_append] at r2
            exact ⟨v, z, r1, A', c', e1, r2, r3, r4⟩))
          have HA9 := Lib.hid (fun (wq : World) (A4 : Option Addr) (c4 b : Nat) (h : Below y.heap.size y wq ∧ wq.cell? ⟨w.heap.size, 0, none⟩ = some (.string k)) (hO : OwnCs2 wq y.heap.size w1.heap.size (.slice A4 p c4) (cs.take p)) (hN : New wq b (cellC (⟨k, [], false, zeroL⟩ : CellL) (.slice none 0 0))) => (show ∃ v z, (Builtin.append_ #[31, 31] 31 #[.slice A4 p c4, .slice (some ⟨b, 0, none⟩) 1 1]).run Try.prog wq = .ok v z ∧ ∃ A' c', v = .slice A' (p + 1) c' ∧ OwnCs2 z y.heap.size w1.heap.size (.slice A' (p + 1) c') (cs.take p ++ [(⟨k, [], false, zeroL⟩ : CellL)]) ∧ Below y.heap.size wq z from by
            obtain ⟨v, z, r1, A', c', e1, r2, r3, r4⟩ := run_append_cells wq 31 y.heap.size w1.heap.size A4 p c4 (cs.take p) (by rw [List.length_take]; omega) hO wq.heap.size (some ⟨b, 0, none⟩) 1 1 [(⟨k, [], false, zeroL⟩ : CellL)] (CsIn.one hN.2 hN.1 (VsIn.nil wq _ none (Nat.zero_le _))) (by omega) h.1.size
            exact ⟨v, z, r1, A', c', e1, r2, r3⟩))
          have HA13 := Lib.hid (fun (wq : World) (A9 : Option Addr) (c9 : Nat) (h : Below y.heap.size y wq ∧ wq.cell? ⟨w.heap.size, 0, none⟩ = some (.string k)) (hO : OwnCs2 wq y.heap.size w1.heap.size (.slice A9 (p + 1) c9) (cs.take p ++ [(⟨k, [], false, zeroL⟩ : CellL)])) => (show ∃ v z, (Builtin.append_ #[31, 31] 31 #[.slice A9 (p + 1) c9, .slice A2 (cs.length - p) (c1 - p)]).run Try.prog wq = .ok v z ∧ ∃ A' c', v = .slice A' (cs.length + 1) c' ∧ OwnCs2 z y.heap.size w1.heap.size (.slice A' (cs.length + 1) c') ((cs.take p ++ [(⟨k, [], false, zeroL⟩ : CellL)]) ++ cs.drop p) ∧ Below y.heap.size wq z from by
            obtain ⟨v, z, r1, A', c', e1, r2, r3, r4⟩ := run_append_cells wq 31 y.heap.size w1.heap.size A9 (p + 1) c9 (cs.take p ++ [(⟨k, [], false, zeroL⟩ : CellL)]) (by simp [List.length_take]; omega) hO y.heap.size A2 (cs.length - p) (c1 - p) (cs.drop p) (hCD.below h.1) (by omega) h.1.size
            rw [show p + 1 + (cs.length - p) = cs.length + 1 by omega] at e1 r2
            exact ⟨v, z, r1, A', c', e1, r2, r3⟩))
          clear hCT hCD hK0 hK1 hBwy HL
          go_upto_region 10 with (fail)
          refine wp_region_held_drew (S := fun wq => Below y.heap.size y wq ∧ wq.cell? ⟨w.heap.size, 0, none⟩ = some (.string k)) (by kernel_rfl) ?s_0 (fun hHeld => ?_)
          case s_0 => exact hst0
          clear hst0
          refine tk 1 { dst := some 43, op := .move (.tmp 7), type := 31, pos := "ref.go:115", after := #[], guard := none } _ ?_
          try simp only [Act.put, List.setIfInBounds_toArray, List.set_cons_zero, List.set_cons_succ]
          refine tk 2 { dst := some 44, op := .move (.tmp 8), type := 3, pos := "ref.go:115", after := #[], guard := none } _ ?_
          try simp only [Act.put, List.setIfInBounds_toArray, List.set_cons_zero, List.set_cons_succ]
          refine tk 5 { dst := some 47, op := .fieldAddr 36 (.tmp 4) 0, type := 0, pos := "ref.go:115", after := #[], guard := none } _ ?_
          try simp only [Act.put, List.setIfInBounds_toArray, List.set_cons_zero, List.set_cons_succ]
          refine tk 10 { dst := some 52, op := .move (.tmp 7), type := 31, pos := "ref.go:115", after := #[], guard := none } _ ?_
          try simp only [Act.put, List.setIfInBounds_toArray, List.set_cons_zero, List.set_cons_succ]
          refine tk 11 { dst := some 53, op := .move (.tmp 8), type := 3, pos := "ref.go:115", after := #[], guard := none } _ ?_
          try simp only [Act.put, List.setIfInBounds_toArray, List.set_cons_zero, List.set_cons_succ]
          refine tk 3 { dst := some 45, op := .slice 31 (.tmp 43) none (some (.tmp 44)) none, type := 31, pos := "ref.go:115", after := #[{ on := 1, ground := .data }, { on := 2, ground := .data }], guard := none } _ ?_
          try simp only [Act.put, List.setIfInBounds_toArray, List.set_cons_zero, List.set_cons_succ]
          refine tk 6 { dst := some 48, op := .load 9 (.tmp 47), type := 9, pos := "ref.go:115", after := #[{ on := 5, ground := .data }], guard := none } _ ?_
          try simp only [Act.put, List.setIfInBounds_toArray, List.set_cons_zero, List.set_cons_succ]
          refine wpAnyH_take (i := 12) (oi := { dst := some 54, op := .slice 31 (.tmp 52) (some (.tmp 53)) none none, type := 31, pos := "ref.go:115", after := #[{ on := 10, ground := .data }, { on := 11, ground := .data }], guard := none }) (v := .slice A2 (cs.length - p) (c1 - p)) rfl (by kernel_rfl) (by kernel_rfl) (by kernel_rfl) (fun _ _ _ h => h) (Or.inl ⟨by rfl, ?y_12t1⟩) (by assumption) ?_
          case y_12t1 => (intro wq hSw; (try dsimp only at hSw); go_simp; first | rw [HSL.out] | simp [HSL.out])
          try simp only [Act.put, List.setIfInBounds_toArray, List.set_cons_zero, List.set_cons_succ]
          refine tk 7 { dst := some 49, op := .build 45 #[(0, .tmp 48)], type := 45, pos := "ref.go:115", after := #[{ on := 6, ground := .data }], guard := none } _ ?_
          try simp only [Act.put, List.setIfInBounds_toArray, List.set_cons_zero, List.set_cons_succ]
          refine wpAnyH_ready (rs := [0, 8]) (by kernel_rfl) (by simp) ?_
          refine AllReadyH.cons (o := { dst := some 42, op := .buildSlice 31 0 #[], type := 31, pos := "ref.go:115", after := #[], guard := none }) rfl (fun KQ hKQ => ?_) (AllReadyH.cons (o := { dst := some 50, op := .buildSlice 31 1 #[(0, .tmp 49)], type := 31, pos := "ref.go:115", after := #[{ on := 7, ground := .data }], guard := none }) rfl (fun KQ hKQ => ?_) (AllReadyH.nil))
          · have hE := HE.out _ (by assumption)
            have hE' := hE.1
            (try rw [size_al] at hE')
            (try rw [size_dr] at hE')
            (try rw [size_al] at hE')
            go_simp
            refine hKQ.out _ _ ?s_0t1 (fun hHeld0 => ?_)
            case s_0t1 => exact hE.2
            clear hKQ KQ
            try simp only [Act.put, List.setIfInBounds_toArray, List.set_cons_zero, List.set_cons_succ]
            refine wpAnyH_ready (rs := [4, 8]) (by kernel_rfl) (by simp) ?_
            refine AllReadyH.cons (o := { dst := some 46, op := .call { callee := .builtin .append, args := #[.tmp 42, .tmp 45], argTypes := #[31, 31] }, type := 31, pos := "ref.go:115", after := #[{ on := 0, ground := .data }, { on := 3, ground := .data }], guard := none }) rfl (fun KQ hKQ => ?_) (AllReadyH.cons (o := { dst := some 50, op := .buildSlice 31 1 #[(0, .tmp 49)], type := 31, pos := "ref.go:115", after := #[{ on := 7, ground := .data }], guard := none }) rfl (fun KQ hKQ => ?_) (AllReadyH.nil))
            · first | (refine step_append rfl _ _ 31 rfl _ _ rfl rfl _ (HA4.out _ _ (by assumption) hE.1) ?_) | (refine step_append rfl _ _ 31 rfl _ _ rfl rfl _ (HA4.out _ _ (by assumption) (own2_al hE.1 hvb _)) ?_) | (refine step_append rfl _ _ 31 rfl _ _ rfl rfl _ (HA4.out _ _ (by assumption) hE') ?_)
              rintro v y4 ⟨A4, c4, rfl, hO4, hB4, hG4⟩
              have hs4 := HSB.out _ y4 (by assumption) hB4
              refine hKQ.out _ _ ?s_4t2 (fun hHeld4 => ?_)
              case s_4t2 => exact hs4
              clear hKQ KQ
              try simp only [Act.put, List.setIfInBounds_toArray, List.set_cons_zero, List.set_cons_succ]
              refine wpAnyH_ready (rs := [8]) (by kernel_rfl) (by simp) ?_
              refine AllReadyH.cons (o := { dst := some 50, op := .buildSlice 31 1 #[(0, .tmp 49)], type := 31, pos := "ref.go:115", after := #[{ on := 7, ground := .data }], guard := none }) rfl (fun KQ hKQ => ?_) AllReadyH.nil
              have h8 := H8.out _ (by assumption)
              have h8' := h8.1
              (try rw [size_al] at h8')
              (try rw [size_dr] at h8')
              (try rw [size_al] at h8')
              go_simp
              refine hKQ.out _ _ ?s_8t3 (fun hHeld8 => ?_)
              case s_8t3 => exact h8.2
              clear hKQ KQ
              try simp only [Act.put, List.setIfInBounds_toArray, List.set_cons_zero, List.set_cons_succ]
              refine wpAnyH_ready (rs := [9]) (by kernel_rfl) (by simp) ?_
              refine AllReadyH.cons (o := { dst := some 51, op := .call { callee := .builtin .append, args := #[.tmp 46, .tmp 50], argTypes := #[31, 31] }, type := 31, pos := "ref.go:115", after := #[{ on := 4, ground := .data }, { on := 8, ground := .data }, { on := 4, ground := .chain }], guard := none }) rfl (fun KQ hKQ => ?_) AllReadyH.nil
              first | (refine step_append rfl _ _ 31 rfl _ _ rfl rfl _ (HA9.out _ _ _ _ (by assumption) (own2_al hO4 hvb _) h8.1) ?_) | (refine step_append rfl _ _ 31 rfl _ _ rfl rfl _ (HA9.out _ _ _ _ (by assumption) hO4 (h8'.grown hG4 (by simp))) ?_) | (refine step_append rfl _ _ 31 rfl _ _ rfl rfl _ (HA9.out _ _ _ _ (by assumption) hO4 ((h8.1.al _).grown hG4 (by simp))) ?_) | (refine step_append rfl _ _ 31 rfl _ _ rfl rfl _ (HA9.out _ _ _ _ (by assumption) hO4 (h8.1.grown hG4 (by simp))) ?_)
              rintro v y9 ⟨A9, c9, rfl, hO9, hB9⟩
              have hs9 := HSB.out _ y9 (by assumption) hB9
              refine hKQ.out _ _ ?s_9t3 (fun hHeld9 => ?_)
              case s_9t3 => exact hs9
              clear hKQ KQ
              try simp only [Act.put, List.setIfInBounds_toArray, List.set_cons_zero, List.set_cons_succ]
              refine wpAnyH_ready (rs := [13]) (by kernel_rfl) (by simp) ?_
              refine AllReadyH.cons (o := { dst := some 55, op := .call { callee := .builtin .append, args := #[.tmp 51, .tmp 54], argTypes := #[31, 31] }, type := 31, pos := "ref.go:115", after := #[{ on := 9, ground := .data }, { on := 12, ground := .data }, { on := 9, ground := .chain }], guard := none }) rfl (fun KQ hKQ => ?_) AllReadyH.nil
              (refine step_append rfl _ _ 31 rfl _ _ rfl rfl _ (HA13.out _ _ _ (by assumption) hO9) ?_)
              rintro v y13 ⟨A13, c13, rfl, hO13, hB13⟩
              have hs13 := HSB.out _ y13 (by assumption) hB13
              refine hKQ.out _ _ ?s_13t3 (fun hHeld13 => ?_)
              case s_13t3 => exact hs13
              clear hKQ KQ
              try simp only [Act.put, List.setIfInBounds_toArray, List.set_cons_zero, List.set_cons_succ]
              refine tk 14 { dst := some 7, op := .assign (.tmp 55), type := 31, pos := "ref.go:115", after := #[{ on := 13, ground := .data }, { on := 13, ground := .chain }, { on := 0, ground := .phase }, { on := 1, ground := .phase }, { on := 2, ground := .phase }, { on := 3, ground := .phase }, { on := 4, ground := .phase }, { on := 5, ground := .phase }, { on := 6, ground := .phase }, { on := 7, ground := .phase }, { on := 8, ground := .phase }, { on := 9, ground := .phase }, { on := 10, ground := .phase }, { on := 11, ground := .phase }, { on := 12, ground := .phase }, { on := 13, ground := .phase }], guard := none } _ ?_
              try simp only [Act.put, List.setIfInBounds_toArray, List.set_cons_zero, List.set_cons_succ]
              refine wpAnyH_done (by kernel_rfl) ?_ _
              go_wp2_with fail
              go_meet
              case rel => exact ⟨A13, c13, cs.length + 1, p, y.heap.size, _, _, rfl, rfl, by omega, by omega, HLEN, HGET, HSET, hvb, hO13, (HFIN.out _ hs13.1).1, (HFIN.out _ hs13.1).2⟩
            · have h8 := H8.out _ (by assumption)
              have h8' := h8.1
              (try rw [size_al] at h8')
              (try rw [size_dr] at h8')
              (try rw [size_al] at h8')
              go_simp
              refine hKQ.out _ _ ?s_8t2 (fun hHeld8 => ?_)
              case s_8t2 => exact h8.2
              clear hKQ KQ
              try simp only [Act.put, List.setIfInBounds_toArray, List.set_cons_zero, List.set_cons_succ]
              refine wpAnyH_ready (rs := [4]) (by kernel_rfl) (by simp) ?_
              refine AllReadyH.cons (o := { dst := some 46, op := .call { callee := .builtin .append, args := #[.tmp 42, .tmp 45], argTypes := #[31, 31] }, type := 31, pos := "ref.go:115", after := #[{ on := 0, ground := .data }, { on := 3, ground := .data }], guard := none }) rfl (fun KQ hKQ => ?_) AllReadyH.nil
              first | (refine step_append rfl _ _ 31 rfl _ _ rfl rfl _ (HA4.out _ _ (by assumption) hE.1) ?_) | (refine step_append rfl _ _ 31 rfl _ _ rfl rfl _ (HA4.out _ _ (by assumption) (own2_al hE.1 hvb _)) ?_) | (refine step_append rfl _ _ 31 rfl _ _ rfl rfl _ (HA4.out _ _ (by assumption) hE') ?_)
              rintro v y4 ⟨A4, c4, rfl, hO4, hB4, hG4⟩
              have hs4 := HSB.out _ y4 (by assumption) hB4
              refine hKQ.out _ _ ?s_4t4 (fun hHeld4 => ?_)
              case s_4t4 => exact hs4
              clear hKQ KQ
              try simp only [Act.put, List.setIfInBounds_toArray, List.set_cons_zero, List.set_cons_succ]
              refine wpAnyH_ready (rs := [9]) (by kernel_rfl) (by simp) ?_
              refine AllReadyH.cons (o := { dst := some 51, op := .call { callee := .builtin .append, args := #[.tmp 46, .tmp 50], argTypes := #[31, 31] }, type := 31, pos := "ref.go:115", after := #[{ on := 4, ground := .data }, { on := 8, ground := .data }, { on := 4, ground := .chain }], guard := none }) rfl (fun KQ hKQ => ?_) AllReadyH.nil
              first | (refine step_append rfl _ _ 31 rfl _ _ rfl rfl _ (HA9.out _ _ _ _ (by assumption) (own2_al hO4 hvb _) h8.1) ?_) | (refine step_append rfl _ _ 31 rfl _ _ rfl rfl _ (HA9.out _ _ _ _ (by assumption) hO4 (h8'.grown hG4 (by simp))) ?_) | (refine step_append rfl _ _ 31 rfl _ _ rfl rfl _ (HA9.out _ _ _ _ (by assumption) hO4 ((h8.1.al _).grown hG4 (by simp))) ?_) | (refine step_append rfl _ _ 31 rfl _ _ rfl rfl _ (HA9.out _ _ _ _ (by assumption) hO4 (h8.1.grown hG4 (by simp))) ?_)
              rintro v y9 ⟨A9, c9, rfl, hO9, hB9⟩
              have hs9 := HSB.out _ y9 (by assumption) hB9
              refine hKQ.out _ _ ?s_9t4 (fun hHeld9 => ?_)
              case s_9t4 => exact hs9
              clear hKQ KQ
              try simp only [Act.put, List.setIfInBounds_toArray, List.set_cons_zero, List.set_cons_succ]
              refine wpAnyH_ready (rs := [13]) (by kernel_rfl) (by simp) ?_
              refine AllReadyH.cons (o := { dst := some 55, op := .call { callee := .builtin .append, args := #[.tmp 51, .tmp 54], argTypes := #[31, 31] }, type := 31, pos := "ref.go:115", after := #[{ on := 9, ground := .data }, { on := 12, ground := .data }, { on := 9, ground := .chain }], guard := none }) rfl (fun KQ hKQ => ?_) AllReadyH.nil
              (refine step_append rfl _ _ 31 rfl _ _ rfl rfl _ (HA13.out _ _ _ (by assumption) hO9) ?_)
              rintro v y13 ⟨A13, c13, rfl, hO13, hB13⟩
              have hs13 := HSB.out _ y13 (by assumption) hB13
              refine hKQ.out _ _ ?s_13t4 (fun hHeld13 => ?_)
              case s_13t4 => exact hs13
              clear hKQ KQ
              try simp only [Act.put, List.setIfInBounds_toArray, List.set_cons_zero, List.set_cons_succ]
              refine tk 14 { dst := some 7, op := .assign (.tmp 55), type := 31, pos := "ref.go:115", after := #[{ on := 13, ground := .data }, { on := 13, ground := .chain }, { on := 0, ground := .phase }, { on := 1, ground := .phase }, { on := 2, ground := .phase }, { on := 3, ground := .phase }, { on := 4, ground := .phase }, { on := 5, ground := .phase }, { on := 6, ground := .phase }, { on := 7, ground := .phase }, { on := 8, ground := .phase }, { on := 9, ground := .phase }, { on := 10, ground := .phase }, { on := 11, ground := .phase }, { on := 12, ground := .phase }, { on := 13, ground := .phase }], guard := none } _ ?_
              try simp only [Act.put, List.setIfInBounds_toArray, List.set_cons_zero, List.set_cons_succ]
              refine wpAnyH_done (by kernel_rfl) ?_ _
              go_wp2_with fail
              go_meet
              case rel => exact ⟨A13, c13, cs.length + 1, p, y.heap.size, _, _, rfl, rfl, by omega, by omega, HLEN, HGET, HSET, hvb, hO13, (HFIN.out _ hs13.1).1, (HFIN.out _ hs13.1).2⟩
          · have h8 := H8.out _ (by assumption)
            have h8' := h8.1
            (try rw [size_al] at h8')
            (try rw [size_dr] at h8')
            (try rw [size_al] at h8')
            go_simp
            refine hKQ.out _ _ ?s_8t1 (fun hHeld8 => ?_)
            case s_8t1 => exact h8.2
            clear hKQ KQ
            try simp only [Act.put, List.setIfInBounds_toArray, List.set_cons_zero, List.set_cons_succ]
            refine wpAnyH_ready (rs := [0]) (by kernel_rfl) (by simp) ?_
            refine AllReadyH.cons (o := { dst := some 42, op := .buildSlice 31 0 #[], type := 31, pos := "ref.go:115", after := #[], guard := none }) rfl (fun KQ hKQ => ?_) AllReadyH.nil
            have hE := HE.out _ (by assumption)
            have hE' := hE.1
            (try rw [size_al] at hE')
            (try rw [size_dr] at hE')
            (try rw [size_al] at hE')
            go_simp
            refine hKQ.out _ _ ?s_0t5 (fun hHeld0 => ?_)
            case s_0t5 => exact hE.2
            clear hKQ KQ
            try simp only [Act.put, List.setIfInBounds_toArray, List.set_cons_zero, List.set_cons_succ]
            refine wpAnyH_ready (rs := [4]) (by kernel_rfl) (by simp) ?_
            refine AllReadyH.cons (o := { dst := some 46, op := .call { callee := .builtin .append, args := #[.tmp 42, .tmp 45], argTypes := #[31, 31] }, type := 31, pos := "ref.go:115", after := #[{ on := 0, ground := .data }, { on := 3, ground := .data }], guard := none }) rfl (fun KQ hKQ => ?_) AllReadyH.nil
            first | (refine step_append rfl _ _ 31 rfl _ _ rfl rfl _ (HA4.out _ _ (by assumption) hE.1) ?_) | (refine step_append rfl _ _ 31 rfl _ _ rfl rfl _ (HA4.out _ _ (by assumption) (own2_al hE.1 hvb _)) ?_) | (refine step_append rfl _ _ 31 rfl _ _ rfl rfl _ (HA4.out _ _ (by assumption) hE') ?_)
            rintro v y4 ⟨A4, c4, rfl, hO4, hB4, hG4⟩
            have hs4 := HSB.out _ y4 (by assumption) hB4
            refine hKQ.out _ _ ?s_4t5 (fun hHeld4 => ?_)
            case s_4t5 => exact hs4
            clear hKQ KQ
            try simp only [Act.put, List.setIfInBounds_toArray, List.set_cons_zero, List.set_cons_succ]
            refine wpAnyH_ready (rs := [9]) (by kernel_rfl) (by simp) ?_
            refine AllReadyH.cons (o := { dst := some 51, op := .call { callee := .builtin .append, args := #[.tmp 46, .tmp 50], argTypes := #[31, 31] }, type := 31, pos := "ref.go:115", after := #[{ on := 4, ground := .data }, { on := 8, ground := .data }, { on := 4, ground := .chain }], guard := none }) rfl (fun KQ hKQ => ?_) AllReadyH.nil
            first | (refine step_append rfl _ _ 31 rfl _ _ rfl rfl _ (HA9.out _ _ _ _ (by assumption) (own2_al hO4 hvb _) h8.1) ?_) | (refine step_append rfl _ _ 31 rfl _ _ rfl rfl _ (HA9.out _ _ _ _ (by assumption) hO4 (h8'.grown hG4 (by simp))) ?_) | (refine step_append rfl _ _ 31 rfl _ _ rfl rfl _ (HA9.out _ _ _ _ (by assumption) hO4 ((h8.1.al _).grown hG4 (by simp))) ?_) | (refine step_append rfl _ _ 31 rfl _ _ rfl rfl _ (HA9.out _ _ _ _ (by assumption) hO4 (h8.1.grown hG4 (by simp))) ?_)
            rintro v y9 ⟨A9, c9, rfl, hO9, hB9⟩
            have hs9 := HSB.out _ y9 (by assumption) hB9
            refine hKQ.out _ _ ?s_9t5 (fun hHeld9 => ?_)
            case s_9t5 => exact hs9
            clear hKQ KQ
            try simp only [Act.put, List.setIfInBounds_toArray, List.set_cons_zero, List.set_cons_succ]
            refine wpAnyH_ready (rs := [13]) (by kernel_rfl) (by simp) ?_
            refine AllReadyH.cons (o := { dst := some 55, op := .call { callee := .builtin .append, args := #[.tmp 51, .tmp 54], argTypes := #[31, 31] }, type := 31, pos := "ref.go:115", after := #[{ on := 9, ground := .data }, { on := 12, ground := .data }, { on := 9, ground := .chain }], guard := none }) rfl (fun KQ hKQ => ?_) AllReadyH.nil
            (refine step_append rfl _ _ 31 rfl _ _ rfl rfl _ (HA13.out _ _ _ (by assumption) hO9) ?_)
            rintro v y13 ⟨A13, c13, rfl, hO13, hB13⟩
            have hs13 := HSB.out _ y13 (by assumption) hB13
            refine hKQ.out _ _ ?s_13t5 (fun hHeld13 => ?_)
            case s_13t5 => exact hs13
            clear hKQ KQ
            try simp only [Act.put, List.setIfInBounds_toArray, List.set_cons_zero, List.set_cons_succ]
            refine tk 14 { dst := some 7, op := .assign (.tmp 55), type := 31, pos := "ref.go:115", after := #[{ on := 13, ground := .data }, { on := 13, ground := .chain }, { on := 0, ground := .phase }, { on := 1, ground := .phase }, { on := 2, ground := .phase }, { on := 3, ground := .phase }, { on := 4, ground := .phase }, { on := 5, ground := .phase }, { on := 6, ground := .phase }, { on := 7, ground := .phase }, { on := 8, ground := .phase }, { on := 9, ground := .phase }, { on := 10, ground := .phase }, { on := 11, ground := .phase }, { on := 12, ground := .phase }, { on := 13, ground := .phase }], guard := none } _ ?_
            try simp only [Act.put, List.setIfInBounds_toArray, List.set_cons_zero, List.set_cons_succ]
            refine wpAnyH_done (by kernel_rfl) ?_ _
            go_wp2_with fail
            go_meet
            case rel => exact ⟨A13, c13, cs.length + 1, p, y.heap.size, _, _, rfl, rfl, by omega, by omega, HLEN, HGET, HSET, hvb, hO13, (HFIN.out _ hs13.1).1, (HFIN.out _ hs13.1).2⟩
    case rest =>
      obtain ⟨A', c', n', i, bs, ds, x, rfl, rfl, hi, hn', HLEN, HGET, HSET, HBS, hO, HK1, hB⟩ := hcut
      obtain ⟨wz, hwz⟩ : ∃ wz, wz = wc := ⟨_, rfl⟩
      subst hwz
      obtain ⟨g, rfl, hg1, hg2⟩ := hO.form (by omega)
      have hgw : w1.heap.size ≤ g := Nat.le_trans HBS.out hg1
      obtain ⟨sv, hV, hA⟩ := hO.cell_at HLEN.out HGET.out
      obtain ⟨a0, a1, a2, a3, a4, a5, a6, a7, a8, a9, a10, a11⟩ := at12 hA
      have df := fun j => hO.frozen j
      have hW : putLock wz g (i * 12) (lockOf dr da l) = ((((((((((wz.setCell ⟨g, i * 12 + 2, none⟩ (.bool true)).setCell ⟨g, i * 12 + 3, none⟩ (.int .i64 l.by_.node)).setCell ⟨g, i * 12 + 4, none⟩ (.int .i64 l.by_.life)).setCell ⟨g, i * 12 + 5, none⟩ (.int .i64 l.by_.seq)).setCell ⟨g, i * 12 + 6, none⟩ (.int .i64 l.by_.att)).setCell ⟨g, i * 12 + 7, none⟩ (.int .i64 l.home)).setCell ⟨g, i * 12 + 8, none⟩ (.int .i64 l.at_.wall)).setCell ⟨g, i * 12 + 9, none⟩ (.int .i64 l.at_.tie)).setCell ⟨g, i * 12 + 10, none⟩ (.bool dr)).setCell ⟨g, i * 12 + 11, none⟩ (.string (if dr then noText else da))) := by unfold putLock lockOf; dsimp only
      have hP := hO.locked HLEN.out HGET.out (lockOf dr da l)
      have hPb := putLock_below (o := i * 12) (lockOf dr da l) hB (show w.heap.size ≤ g by omega)
      rw [hW] at hP hPb
      rw [HSET.out] at hP
      have hF := own_drew ((hP.one HBS.out).more (base' := w.heap.size) (by omega))
      have hBf := hPb.drew
      have HLN : Hid ((lockF k (lockOf dr da l) cs).length = n') := by rw [← HSET.out, List.length_set]; exact HLEN
      generalize hdd : (if dr = true then noText else da) = dd at *
      generalize hlf : lockF k (lockOf dr da l) cs = lf at *
      obtain ⟨d0, d1, d2, d3, d4, d5, d6, d7, d8⟩ := blk9 HK1.out
      have hne : ¬ w.heap.size + 1 = g := by omega
      have hne' : ¬ g = w.heap.size + 1 := by omega
      clear hO hV hA HSET HC hO3 hB hP hPb hW hdd hlf
      go_wp2_with fail
      go_region
      generalize (((((((((((wz.setCell ⟨g, i * 12 + 2, none⟩ (.bool true)).setCell ⟨g, i * 12 + 3, none⟩ (.int .i64 l.by_.node)).setCell ⟨g, i * 12 + 4, none⟩ (.int .i64 l.by_.life)).setCell ⟨g, i * 12 + 5, none⟩ (.int .i64 l.by_.seq)).setCell ⟨g, i * 12 + 6, none⟩ (.int .i64 l.by_.att)).setCell ⟨g, i * 12 + 7, none⟩ (.int .i64 l.home)).setCell ⟨g, i * 12 + 8, none⟩ (.int .i64 l.at_.wall)).setCell ⟨g, i * 12 + 9, none⟩ (.int .i64 l.at_.tie)).setCell ⟨g, i * 12 + 10, none⟩ (.bool dr)).setCell ⟨g, i * 12 + 11, none⟩ (.string dd)).drew) = wf at *
      simp only [Exit.then]
      refine (‹∀ (a : Act) (z : World), Code.wp Try.prog _ _ a z → _›) _ _ ?_
      go_wp2_with fail
      go_ret
      unfold RetCs
      rw [HLN.out]
      exact ⟨_, c', rfl, hF, hBf⟩
end Go.Proofs.Ytlkhmpfdajefiaa.ref8
