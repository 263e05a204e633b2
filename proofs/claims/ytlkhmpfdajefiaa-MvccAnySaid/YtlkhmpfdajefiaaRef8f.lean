/- What the document's with (antipoderef8) comes to. Conditions: rising versions, few of them. -/
import Derived.Test.YtlkhmpfdajefiaaJoin1
import Derived.BigQuiet
namespace Go.Proofs.Ytlkhmpfdajefiaa.ref8
open Go Go.RowKit Go.Proofs.Ytlkhmpfdajefiaa.kit Go.Proofs.Ytlkhmpfdajefiaa.nums Go.Proofs.Ytlkhmpfdajefiaa.st Go.Proofs.Ytlkhmpfdajefiaa.mv
set_option linter.unusedVariables false

/-- What a call ends in that hands back versions of its own. -/
def RetVs (W : World) (vs : List VerL) (e : Ending) (w' : World) : Prop := ∃ A c, e = .returned (.slice A vs.length c) ∧ OwnVs w' W.heap.size (.slice A vs.length c) vs ∧ Below W.heap.size W w'
theorem eq_st (a b : StL) (w : World) : (binOp BinOp.eql 24 (.agg #[.int .i64 a.wall, .int .i64 a.tie]) (.agg #[.int .i64 b.wall, .int .i64 b.tie])).run Try.prog w = .ok (.bool (decide (a = b))) w := by
  obtain ⟨p, q⟩ := a
  obtain ⟨p', q'⟩ := b
  by_cases h1 : p = p' <;> by_cases h2 : q = q'
  all_goals go_simp
theorem ne_st (a b : StL) (w : World) : (binOp BinOp.neq 24 (.agg #[.int .i64 a.wall, .int .i64 a.tie]) (.agg #[.int .i64 b.wall, .int .i64 b.tie])).run Try.prog w = .ok (.bool (!decide (a = b))) w := by
  obtain ⟨p, q⟩ := a
  obtain ⟨p', q'⟩ := b
  by_cases h1 : p = p' <;> by_cases h2 : q = q'
  all_goals go_simp
theorem rd_one (v : VerL) (w : World) : RdVs (w.alloc (.cells #[.int .i64 v.at_.wall, .int .i64 v.at_.tie, .bool v.drop, .string v.data] 47)) (w.heap.size + 1) (some ⟨w.heap.size, 0, none⟩) 1 [v] := by
  refine ⟨rfl, fun _ => ⟨_, 0, rfl, by omega, fun j u hu => ?_⟩⟩
  have hj : j = 0 := by
    rcases j with _ | j
    · rfl
    · cases hu
  subst hj
  obtain rfl := Option.some.inj hu
  have hb : Blk 47 (w.alloc (.cells #[.int .i64 v.at_.wall, .int .i64 v.at_.tie, .bool v.drop, .string v.data] 47)) w.heap.size (verC v) := heap_alloc_new w _
  intro q z hz
  rw [show 0 + 0 * 4 + q = q by omega, hb.cell q]
  exact hz
/-- Where the loop stands: 'it' is in, or not yet. -/
def WithAt (v : VerL) (vs : List VerL) (b : Bool) (j : Nat) (out : List VerL) : Prop := if b then withF v vs = out ++ vs.drop j ∧ ∀ u ∈ vs.drop j, u.at_ ≠ v.at_ else withF v vs = out ++ withF v (vs.drop j)
theorem drop_ver {vs : List VerL} {j : Nat} {x : VerL} (hx : vs[j]? = some x) : vs.drop j = x :: vs.drop (j + 1) := by
  obtain ⟨hj, rfl⟩ := List.getElem?_eq_some_iff.1 hx
  exact List.drop_eq_getElem_cons hj
theorem with_in {v x : VerL} {vs : List VerL} {j : Nat} {out : List VerL} (hx : vs[j]? = some x) (h : WithAt v vs true j out) : x.at_ ≠ v.at_ ∧ WithAt v vs true (j + 1) (out ++ [x]) := by
  have h : withF v vs = out ++ vs.drop j ∧ ∀ u ∈ vs.drop j, u.at_ ≠ v.at_ := h
  rw [drop_ver hx] at h
  refine ⟨h.2 x (by simp), ?_⟩
  show withF v vs = _ ∧ _
  exact ⟨by rw [h.1]; simp, fun u hu => h.2 u (List.mem_cons_of_mem _ hu)⟩
theorem rise_tail {vs : List VerL} {j : Nat} {x : VerL} (hp : vs.Pairwise (fun a b => lessF a.at_ b.at_ = true)) (hx : vs[j]? = some x) : ∀ u ∈ vs.drop (j + 1), lessF x.at_ u.at_ = true := by
  have h1 : (vs.drop j).Pairwise (fun a b => lessF a.at_ b.at_ = true) := hp.sublist (List.drop_sublist j vs)
  rw [drop_ver hx] at h1
  exact (List.pairwise_cons.1 h1).1
theorem with_less {v x : VerL} {vs : List VerL} {j : Nat} {out : List VerL} (hx : vs[j]? = some x) (hl : lessF x.at_ v.at_ = true) (h : WithAt v vs false j out) : WithAt v vs false (j + 1) (out ++ [x]) := by
  have h : withF v vs = out ++ withF v (vs.drop j) := h
  rw [drop_ver hx, withF, if_pos hl] at h
  show withF v vs = _
  rw [h]; simp
theorem with_same {v x : VerL} {vs : List VerL} {j : Nat} {out : List VerL} (hp : vs.Pairwise (fun a b => lessF a.at_ b.at_ = true)) (hx : vs[j]? = some x) (he : x.at_ = v.at_) (h : WithAt v vs false j out) : WithAt v vs true (j + 1) (out ++ [v]) := by
  have h : withF v vs = out ++ withF v (vs.drop j) := h
  rw [drop_ver hx, withF, if_neg (by rw [he, lt_irr]; decide), if_pos he] at h
  show withF v vs = _ ∧ _
  exact ⟨by rw [h]; simp, fun u hu => by rw [← he]; exact (lt_ne (rise_tail hp hx u hu)).symm⟩
theorem with_more {v x : VerL} {vs : List VerL} {j : Nat} {out : List VerL} (hp : vs.Pairwise (fun a b => lessF a.at_ b.at_ = true)) (hx : vs[j]? = some x) (hl : ¬ lessF x.at_ v.at_ = true) (he : ¬ x.at_ = v.at_) (h : WithAt v vs false j out) : WithAt v vs true (j + 1) (out ++ [v] ++ [x]) := by
  have h : withF v vs = out ++ withF v (vs.drop j) := h
  rw [drop_ver hx, withF, if_neg hl, if_neg he] at h
  have hv : lessF v.at_ x.at_ = true := by
    rcases lt_tri v.at_ x.at_ with g | g | g
    · exact g
    · exact absurd g.symm he
    · exact absurd g hl
  show withF v vs = _ ∧ _
  exact ⟨by rw [h]; simp, fun u hu => (lt_ne (lt_trans hv (rise_tail hp hx u hu))).symm⟩
set_option maxRecDepth 100000 in
set_option maxHeartbeats 4000000 in
theorem with_any (A : Option Addr) (n c : Nat) (vs : List VerL) (v : VerL) (w : World) (B : Nat) (hR : RdVs w B A n vs) (hB : B ≤ w.heap.size) (hn : n ≤ 1000) (hp : vs.Pairwise (fun a b => lessF a.at_ b.at_ = true)) :
    Calls Try.prog 50 #[.slice A n c, .agg (verC v).toArray] w (RetVs w (withF v vs)) := by
  have HR := Lib.hid (fun j (hj : j < n) => hR.at_ hj)
  have HN := Lib.hid hR.1
  have HP := Lib.hid hp
  have HE := Lib.hid (fun (a : StL) w => ne_st a v.at_ w)
  have LS := Lib.hid (fun (a : StL) w => ref6.less_any a v.at_ w)
  unfold ref6.stV at LS
  unfold verC
  unfold RetVs
  clear hR hp
  have hB0 : Hid (Below w.heap.size w (w.alloc (.cells #[.int .i64 v.at_.wall, .int .i64 v.at_.tie, .bool v.drop, .string v.data] 47))) := (Below.refl _ _).alloc (Nat.le_refl _) _
  have k0 : Blk 47 (w.alloc (.cells #[.int .i64 v.at_.wall, .int .i64 v.at_.tie, .bool v.drop, .string v.data] 47)) w.heap.size [.int .i64 v.at_.wall, .int .i64 v.at_.tie, .bool v.drop, .string v.data] := heap_alloc_new w _
  go_enter Try.func50, Try.ntmps50
  go_upto_region 1 with (fail)
  generalize (w.alloc (.cells #[.int .i64 v.at_.wall, .int .i64 v.at_.tie, .bool v.drop, .string v.data] 47)) = w1 at *
  go_wp2_with fail
  go_loopw [5, 6, 7] (fun ov bv iv wr => ∃ (j k : Nat) (bb : Bool) (A' : Option Addr) (c' : Nat) (out : List VerL), j ≤ n ∧ k ≤ j + 1 ∧ Hid (bb = false → k ≤ j) ∧ iv = .int .i64 j ∧ bv = .bool bb ∧ ov = .slice A' k c' ∧ Hid (out.length = k) ∧ OwnVs wr w1.heap.size (.slice A' k c') out ∧ Hid (WithAt v vs bb j out) ∧ Below w1.heap.size w1 wr) (fun _ _ iv _ => n - (intOf iv).toNat)
  case atStart => exact ⟨0, 0, false, none, 0, [], Nat.zero_le _, by omega, fun _ => Nat.le_refl _, rfl, rfl, rfl, rfl, World.ownsRow_nil _ _ _ 4, rfl, Below.refl _ _⟩
  case round =>
    obtain ⟨j, k, bb, A', c', out, hj, hk, hkb, rfl, rfl, rfl, hl, hO, hW, hBr⟩ := hrel
    have hsr := hBr.size
    by_cases hlt : j < n
    · obtain ⟨b, o, x, rfl, hbB, hx, hA⟩ := HR.out j hlt
      have HS : Hid (∀ wq, Below w1.heap.size w1 wq → (wq.cell? ⟨w.heap.size, 0, none⟩ = some (.int .i64 v.at_.wall) ∧ wq.cell? ⟨w.heap.size, 1, none⟩ = some (.int .i64 v.at_.tie) ∧ wq.cell? ⟨w.heap.size, 2, none⟩ = some (.bool v.drop) ∧ wq.cell? ⟨w.heap.size, 3, none⟩ = some (.string v.data)) ∧ wq.cell? ⟨b, o + j * 4, none⟩ = some (.int .i64 x.at_.wall) ∧ wq.cell? ⟨b, o + j * 4 + 1, none⟩ = some (.int .i64 x.at_.tie) ∧ wq.cell? ⟨b, o + j * 4 + 2, none⟩ = some (.bool x.drop) ∧ wq.cell? ⟨b, o + j * 4 + 3, none⟩ = some (.string x.data)) := fun wq hq => by
        have hA2 : At wq b (o + j * 4) (verC x) := hA.below (show b < w.heap.size by omega) (hB0.out.trans (hq.mono hB0.out.size))
        have j0 := k0.below hq k0.lt
        exact ⟨⟨j0.cell 0, j0.cell 1, j0.cell 2, j0.cell 3⟩, hA2 0 _ rfl, hA2 1 _ rfl, hA2 2 _ rfl, hA2 3 _ rfl⟩
      have p0 : Below w1.heap.size w1 wr.drew := hBr.drew
      have LSx := Lib.hid (fun w => LS.out x.at_ w)
      clear hA
      rcases bb with _ | _
      · have hk2 : k ≤ j := hkb.out rfl
        by_cases hl1 : lessF x.at_ v.at_ = true
        · have hWH := Lib.hid (with_less hx hl1 hW.out)
          have hEx := HE.out x.at_
          simp only [decide_eq_false (lt_ne hl1), Bool.not_false] at hEx
          rw [hl1] at LSx
          clear hW
          go_upto_region 6 with (fail)
          refine wp_region_held_drew (S := fun wq => (wq.cell? ⟨w.heap.size, 0, none⟩ = some (.int .i64 v.at_.wall) ∧ wq.cell? ⟨w.heap.size, 1, none⟩ = some (.int .i64 v.at_.tie) ∧ wq.cell? ⟨w.heap.size, 2, none⟩ = some (.bool v.drop) ∧ wq.cell? ⟨w.heap.size, 3, none⟩ = some (.string v.data)) ∧ wq.cell? ⟨b, o + j * 4, none⟩ = some (.int .i64 x.at_.wall) ∧ wq.cell? ⟨b, o + j * 4 + 1, none⟩ = some (.int .i64 x.at_.tie) ∧ wq.cell? ⟨b, o + j * 4 + 2, none⟩ = some (.bool x.drop) ∧ wq.cell? ⟨b, o + j * 4 + 3, none⟩ = some (.string x.data)) (by kernel_rfl) ?s_0 (fun hHeld => ?_)
          case s_0 => exact HS.out _ p0
          refine tk 0 { dst := some 14, op := .move (.tmp 6), type := 4, pos := "ref.go:145", after := #[], guard := none } _ ?_
          try simp only [Act.put, List.setIfInBounds_toArray, List.set_cons_zero, List.set_cons_succ]
          refine tk 1 { dst := some 15, op := .unOp .not 4 (.tmp 14), type := 4, pos := "ref.go:145", after := #[{ on := 0, ground := .data }], guard := none } _ ?_
          try simp only [Act.put, List.setIfInBounds_toArray, List.set_cons_zero, List.set_cons_succ]
          refine tk 2 { dst := some 16, op := .move (.tmp 15), type := 4, pos := "ref.go:145", after := #[{ on := 1, ground := .data }], guard := none } _ ?_
          try simp only [Act.put, List.setIfInBounds_toArray, List.set_cons_zero, List.set_cons_succ]
          refine tk 3 { dst := some 17, op := .move (.tmp 0), type := 43, pos := "ref.go:145", after := #[{ on := 2, ground := .guard }], guard := some (2, true) } _ ?_
          try simp only [Act.put, List.setIfInBounds_toArray, List.set_cons_zero, List.set_cons_succ]
          refine tk 4 { dst := some 18, op := .move (.tmp 7), type := 3, pos := "ref.go:145", after := #[{ on := 2, ground := .guard }], guard := some (2, true) } _ ?_
          try simp only [Act.put, List.setIfInBounds_toArray, List.set_cons_zero, List.set_cons_succ]
          refine tk 5 { dst := some 19, op := .indexAddr 43 (.tmp 17) (.tmp 18), type := 0, pos := "ref.go:145", after := #[{ on := 3, ground := .data }, { on := 4, ground := .data }, { on := 2, ground := .guard }], guard := some (2, true) } _ ?_
          try simp only [Act.put, List.setIfInBounds_toArray, List.set_cons_zero, List.set_cons_succ]
          refine tk 6 { dst := some 20, op := .fieldAddr 47 (.tmp 19) 0, type := 0, pos := "ref.go:145", after := #[{ on := 5, ground := .data }, { on := 2, ground := .guard }], guard := some (2, true) } _ ?_
          try simp only [Act.put, List.setIfInBounds_toArray, List.set_cons_zero, List.set_cons_succ]
          refine tk 7 { dst := some 21, op := .load 24 (.tmp 20), type := 24, pos := "ref.go:145", after := #[{ on := 6, ground := .data }, { on := 2, ground := .guard }], guard := some (2, true) } _ ?_
          try simp only [Act.put, List.setIfInBounds_toArray, List.set_cons_zero, List.set_cons_succ]
          refine tk 8 { dst := some 22, op := .fieldAddr 47 (.tmp 3) 0, type := 0, pos := "ref.go:145", after := #[{ on := 2, ground := .guard }], guard := some (2, true) } _ ?_
          try simp only [Act.put, List.setIfInBounds_toArray, List.set_cons_zero, List.set_cons_succ]
          refine tk 9 { dst := some 23, op := .load 24 (.tmp 22), type := 24, pos := "ref.go:145", after := #[{ on := 8, ground := .data }, { on := 2, ground := .guard }], guard := some (2, true) } _ ?_
          try simp only [Act.put, List.setIfInBounds_toArray, List.set_cons_zero, List.set_cons_succ]
          refine wpAnyH_ready (rs := [10]) (by kernel_rfl) (by simp) ?_
          refine AllReadyH.cons (o := { dst := some 24, op := .call { callee := .value (.func 21), args := #[.tmp 21, .tmp 23], argTypes := #[24, 24] }, type := 4, pos := "ref.go:145", after := #[{ on := 7, ground := .data }, { on := 9, ground := .data }, { on := 2, ground := .chain }, { on := 2, ground := .guard }], guard := some (2, true) }) rfl (fun KQ hKQ => ?_) AllReadyH.nil
          go_simp
          refine (LSx.out _).mono ?_
          rintro e y1 ⟨rfl, hY1⟩
          have p1 := p0.trans (hY1.mono p0.size)
          have r1 := HS.out _ p1
          go_wp2_with fail
          refine hKQ.out _ _ ?s_10 (fun hHeld10 => ?_)
          case s_10 => exact r1
          clear hKQ KQ
          try simp only [Act.put, List.setIfInBounds_toArray, List.set_cons_zero, List.set_cons_succ]
          refine tk 11 { dst := some 25, op := .unOp .not 4 (.tmp 24), type := 4, pos := "ref.go:145", after := #[{ on := 10, ground := .data }, { on := 2, ground := .guard }], guard := some (2, true) } _ ?_
          try simp only [Act.put, List.setIfInBounds_toArray, List.set_cons_zero, List.set_cons_succ]
          refine tk 12 { dst := some 26, op := .pick (.tmp 16) (.tmp 25) (.const (.bool false)), type := 4, pos := "ref.go:145", after := #[{ on := 2, ground := .data }, { on := 11, ground := .data }], guard := none } _ ?_
          try simp only [Act.put, List.setIfInBounds_toArray, List.set_cons_zero, List.set_cons_succ]
          refine wpAnyH_done (by kernel_rfl) ?_ _
          obtain ⟨⟨v0, v1, v2, v3⟩, x0, x1, x2, x3⟩ := HS.out _ p1
          go_wp2_with fail
          go_quiet (fail)
          go_upto_region 9 with (fail)
          have hOy : OwnVs y1 w1.heap.size (.slice A' k c') out := hO.below ((Below.refl _ _).drew.trans hY1)
          have hBz : Below w1.heap.size w1 (y1.drewN nq) := below_drewN p1 _
          have hOz : OwnVs (y1.drewN nq) w1.heap.size (.slice A' k c') out := hOy.below (below_drewN (Below.refl _ _) _)
          generalize (y1.drewN nq) = z at *
          have hsz := hBz.size
          obtain ⟨⟨v0, v1, v2, v3⟩, x0, x1, x2, x3⟩ := HS.out _ hBz
          go_wp2_with (at_builtin; with_reducible refine wpList_append_vers rfl (.tmp 39) (.tmp 44) rfl w1.heap.size A' k c' (out) hl.out rfl (hOz.below ((Below.refl _ _).alloc (Nat.le_refl _) _)) _ _ 1 1 [x] rfl (rd_one x _) ?hb1 ?hbase1 ?_)
          case hb1 => omega
          case hbase1 => simp; omega
          intro A5 c5 w5 hO5 hB5 _
          have hB15 := (hBz.alloc hsz _).trans hB5
          have hl5 : Hid ((out ++ [x]).length = k + 1) := by rw [List.length_append, hl.out]; exact Lib.hid rfl
          go_wp2_with fail
          go_roundw
          case rel => exact ⟨j + 1, k + 1, false, A5, c5, out ++ [x], by omega, by omega, fun _ => Nat.succ_le_succ hk2, by go_num, rfl, rfl, hl5, hO5, hWH, hB15⟩
          case measure => simp [intOf]; omega
        · have hl1' : lessF x.at_ v.at_ = false := by simpa using hl1
          rw [hl1'] at LSx
          have hEx := HE.out x.at_
          go_upto_region 6 with (fail)
          refine wp_region_held_drew (S := fun wq => (wq.cell? ⟨w.heap.size, 0, none⟩ = some (.int .i64 v.at_.wall) ∧ wq.cell? ⟨w.heap.size, 1, none⟩ = some (.int .i64 v.at_.tie) ∧ wq.cell? ⟨w.heap.size, 2, none⟩ = some (.bool v.drop) ∧ wq.cell? ⟨w.heap.size, 3, none⟩ = some (.string v.data)) ∧ wq.cell? ⟨b, o + j * 4, none⟩ = some (.int .i64 x.at_.wall) ∧ wq.cell? ⟨b, o + j * 4 + 1, none⟩ = some (.int .i64 x.at_.tie) ∧ wq.cell? ⟨b, o + j * 4 + 2, none⟩ = some (.bool x.drop) ∧ wq.cell? ⟨b, o + j * 4 + 3, none⟩ = some (.string x.data)) (by kernel_rfl) ?s_0 (fun hHeld => ?_)
          case s_0 => exact HS.out _ p0
          refine tk 0 { dst := some 14, op := .move (.tmp 6), type := 4, pos := "ref.go:145", after := #[], guard := none } _ ?_
          try simp only [Act.put, List.setIfInBounds_toArray, List.set_cons_zero, List.set_cons_succ]
          refine tk 1 { dst := some 15, op := .unOp .not 4 (.tmp 14), type := 4, pos := "ref.go:145", after := #[{ on := 0, ground := .data }], guard := none } _ ?_
          try simp only [Act.put, List.setIfInBounds_toArray, List.set_cons_zero, List.set_cons_succ]
          refine tk 2 { dst := some 16, op := .move (.tmp 15), type := 4, pos := "ref.go:145", after := #[{ on := 1, ground := .data }], guard := none } _ ?_
          try simp only [Act.put, List.setIfInBounds_toArray, List.set_cons_zero, List.set_cons_succ]
          refine tk 3 { dst := some 17, op := .move (.tmp 0), type := 43, pos := "ref.go:145", after := #[{ on := 2, ground := .guard }], guard := some (2, true) } _ ?_
          try simp only [Act.put, List.setIfInBounds_toArray, List.set_cons_zero, List.set_cons_succ]
          refine tk 4 { dst := some 18, op := .move (.tmp 7), type := 3, pos := "ref.go:145", after := #[{ on := 2, ground := .guard }], guard := some (2, true) } _ ?_
          try simp only [Act.put, List.setIfInBounds_toArray, List.set_cons_zero, List.set_cons_succ]
          refine tk 5 { dst := some 19, op := .indexAddr 43 (.tmp 17) (.tmp 18), type := 0, pos := "ref.go:145", after := #[{ on := 3, ground := .data }, { on := 4, ground := .data }, { on := 2, ground := .guard }], guard := some (2, true) } _ ?_
          try simp only [Act.put, List.setIfInBounds_toArray, List.set_cons_zero, List.set_cons_succ]
          refine tk 6 { dst := some 20, op := .fieldAddr 47 (.tmp 19) 0, type := 0, pos := "ref.go:145", after := #[{ on := 5, ground := .data }, { on := 2, ground := .guard }], guard := some (2, true) } _ ?_
          try simp only [Act.put, List.setIfInBounds_toArray, List.set_cons_zero, List.set_cons_succ]
          refine tk 7 { dst := some 21, op := .load 24 (.tmp 20), type := 24, pos := "ref.go:145", after := #[{ on := 6, ground := .data }, { on := 2, ground := .guard }], guard := some (2, true) } _ ?_
          try simp only [Act.put, List.setIfInBounds_toArray, List.set_cons_zero, List.set_cons_succ]
          refine tk 8 { dst := some 22, op := .fieldAddr 47 (.tmp 3) 0, type := 0, pos := "ref.go:145", after := #[{ on := 2, ground := .guard }], guard := some (2, true) } _ ?_
          try simp only [Act.put, List.setIfInBounds_toArray, List.set_cons_zero, List.set_cons_succ]
          refine tk 9 { dst := some 23, op := .load 24 (.tmp 22), type := 24, pos := "ref.go:145", after := #[{ on := 8, ground := .data }, { on := 2, ground := .guard }], guard := some (2, true) } _ ?_
          try simp only [Act.put, List.setIfInBounds_toArray, List.set_cons_zero, List.set_cons_succ]
          refine wpAnyH_ready (rs := [10]) (by kernel_rfl) (by simp) ?_
          refine AllReadyH.cons (o := { dst := some 24, op := .call { callee := .value (.func 21), args := #[.tmp 21, .tmp 23], argTypes := #[24, 24] }, type := 4, pos := "ref.go:145", after := #[{ on := 7, ground := .data }, { on := 9, ground := .data }, { on := 2, ground := .chain }, { on := 2, ground := .guard }], guard := some (2, true) }) rfl (fun KQ hKQ => ?_) AllReadyH.nil
          go_simp
          refine (LSx.out _).mono ?_
          rintro e y1 ⟨rfl, hY1⟩
          have p1 := p0.trans (hY1.mono p0.size)
          have r1 := HS.out _ p1
          go_wp2_with fail
          refine hKQ.out _ _ ?s_10 (fun hHeld10 => ?_)
          case s_10 => exact r1
          clear hKQ KQ
          try simp only [Act.put, List.setIfInBounds_toArray, List.set_cons_zero, List.set_cons_succ]
          refine tk 11 { dst := some 25, op := .unOp .not 4 (.tmp 24), type := 4, pos := "ref.go:145", after := #[{ on := 10, ground := .data }, { on := 2, ground := .guard }], guard := some (2, true) } _ ?_
          try simp only [Act.put, List.setIfInBounds_toArray, List.set_cons_zero, List.set_cons_succ]
          refine tk 12 { dst := some 26, op := .pick (.tmp 16) (.tmp 25) (.const (.bool false)), type := 4, pos := "ref.go:145", after := #[{ on := 2, ground := .data }, { on := 11, ground := .data }], guard := none } _ ?_
          try simp only [Act.put, List.setIfInBounds_toArray, List.set_cons_zero, List.set_cons_succ]
          refine wpAnyH_done (by kernel_rfl) ?_ _
          obtain ⟨⟨v0, v1, v2, v3⟩, x0, x1, x2, x3⟩ := HS.out _ p1
          go_upto_region 7 with (fail)
          have hOy : OwnVs y1 w1.heap.size (.slice A' k c') out := hO.below ((Below.refl _ _).drew.trans hY1)
          have hsy := p1.size
          go_wp2_with (at_builtin; with_reducible refine wpList_append_vers rfl (.tmp 27) (.tmp 29) rfl w1.heap.size A' k c' (out) hl.out rfl (hOy.below ((Below.refl _ _).alloc (Nat.le_refl _) _)) _ _ 1 1 [v] rfl (rd_one v _) ?hb3 ?hbase3 ?_)
          case hb3 => omega
          case hbase3 => simp; omega
          intro A5 c5 w5 hO5 hB5 _
          have hB15 := (p1.alloc hsy _).trans hB5
          have hl5 : Hid ((out ++ [v]).length = k + 1) := by rw [List.length_append, hl.out]; exact Lib.hid rfl
          have hs5 := hB15.size
          clear v0 v1 v2 v3 x0 x1 x2 x3 hOy hB5
          obtain ⟨⟨v0, v1, v2, v3⟩, x0, x1, x2, x3⟩ := HS.out _ hB15
          by_cases he : x.at_ = v.at_
          · have hWH := Lib.hid (with_same HP.out hx he hW.out)
            simp only [decide_eq_true he, Bool.not_true] at hEx
            clear hW he
            go_wp2_with fail
            go_quiet (fail)
            have hOz : OwnVs (w5.drewN nq) w1.heap.size (.slice A5 (k + 1) c5) (out ++ [v]) := hO5.below (below_drewN (Below.refl _ _) _)
            have hBz := below_drewN hB15 nq
            go_wp2_with fail
            go_roundw
            case rel => exact ⟨j + 1, k + 1, true, A5, c5, out ++ [v], by omega, by omega, (fun h => by cases h), by go_num, rfl, rfl, hl5, hOz, hWH, hBz⟩
            case measure => simp [intOf]; omega
          · have hWH := Lib.hid (with_more HP.out hx hl1 he hW.out)
            simp only [decide_eq_false he, Bool.not_false] at hEx
            clear hW he
            go_wp2_with fail
            go_quiet (fail)
            go_upto_region 9 with (fail)
            have hBz : Below w1.heap.size w1 (w5.drewN nq) := below_drewN hB15 _
            have hOz : OwnVs (w5.drewN nq) w1.heap.size (.slice A5 (k + 1) c5) (out ++ [v]) := hO5.below (below_drewN (Below.refl _ _) _)
            generalize (w5.drewN nq) = z at *
            have hsz := hBz.size
            clear v0 v1 v2 v3 x0 x1 x2 x3
            obtain ⟨⟨v0, v1, v2, v3⟩, x0, x1, x2, x3⟩ := HS.out _ hBz
            go_wp2_with (at_builtin; with_reducible refine wpList_append_vers rfl (.tmp 39) (.tmp 44) rfl w1.heap.size A5 (k + 1) c5 (out ++ [v]) hl5.out rfl (hOz.below ((Below.refl _ _).alloc (Nat.le_refl _) _)) _ _ 1 1 [x] rfl (rd_one x _) ?hb4 ?hbase4 ?_)
            case hb4 => omega
            case hbase4 => simp; omega
            intro A6 c6 w6 hO6 hB6 _
            have hB16 := (hBz.alloc hsz _).trans hB6
            have hl6 : Hid ((out ++ [v] ++ [x]).length = k + 2) := by rw [List.length_append, hl5.out]; exact Lib.hid rfl
            have hO7 : OwnVs w6 w1.heap.size (.slice A6 (k + 2) c6) (out ++ [v] ++ [x]) := by simpa using hO6
            go_wp2_with fail
            go_roundw
            case rel => exact ⟨j + 1, k + 2, true, A6, c6, out ++ [v] ++ [x], by omega, by omega, (fun h => by cases h), by go_num, rfl, rfl, hl6, hO7, hWH, hB16⟩
            case measure => simp [intOf]; omega
      · obtain ⟨hne, hW2⟩ := with_in hx hW.out
        have hEx := HE.out x.at_
        simp only [decide_eq_false hne, Bool.not_false] at hEx
        have hWH := Lib.hid hW2
        clear hW hW2 hne
        go_upto_region 6 with (fail)
        refine wp_region_held_drew (S := fun wq => (wq.cell? ⟨w.heap.size, 0, none⟩ = some (.int .i64 v.at_.wall) ∧ wq.cell? ⟨w.heap.size, 1, none⟩ = some (.int .i64 v.at_.tie) ∧ wq.cell? ⟨w.heap.size, 2, none⟩ = some (.bool v.drop) ∧ wq.cell? ⟨w.heap.size, 3, none⟩ = some (.string v.data)) ∧ wq.cell? ⟨b, o + j * 4, none⟩ = some (.int .i64 x.at_.wall) ∧ wq.cell? ⟨b, o + j * 4 + 1, none⟩ = some (.int .i64 x.at_.tie) ∧ wq.cell? ⟨b, o + j * 4 + 2, none⟩ = some (.bool x.drop) ∧ wq.cell? ⟨b, o + j * 4 + 3, none⟩ = some (.string x.data)) (by kernel_rfl) ?s_0 (fun hHeld => ?_)
        case s_0 => exact HS.out _ p0
        refine tk 0 { dst := some 14, op := .move (.tmp 6), type := 4, pos := "ref.go:145", after := #[], guard := none } _ ?_
        try simp only [Act.put, List.setIfInBounds_toArray, List.set_cons_zero, List.set_cons_succ]
        refine tk 1 { dst := some 15, op := .unOp .not 4 (.tmp 14), type := 4, pos := "ref.go:145", after := #[{ on := 0, ground := .data }], guard := none } _ ?_
        try simp only [Act.put, List.setIfInBounds_toArray, List.set_cons_zero, List.set_cons_succ]
        refine tk 2 { dst := some 16, op := .move (.tmp 15), type := 4, pos := "ref.go:145", after := #[{ on := 1, ground := .data }], guard := none } _ ?_
        try simp only [Act.put, List.setIfInBounds_toArray, List.set_cons_zero, List.set_cons_succ]
        refine tu 3 { dst := some 17, op := .move (.tmp 0), type := 43, pos := "ref.go:145", after := #[{ on := 2, ground := .guard }], guard := some (2, true) } ?_
        try simp only [Act.put, List.setIfInBounds_toArray, List.set_cons_zero, List.set_cons_succ]
        refine tu 4 { dst := some 18, op := .move (.tmp 7), type := 3, pos := "ref.go:145", after := #[{ on := 2, ground := .guard }], guard := some (2, true) } ?_
        try simp only [Act.put, List.setIfInBounds_toArray, List.set_cons_zero, List.set_cons_succ]
        refine tu 5 { dst := some 19, op := .indexAddr 43 (.tmp 17) (.tmp 18), type := 0, pos := "ref.go:145", after := #[{ on := 3, ground := .data }, { on := 4, ground := .data }, { on := 2, ground := .guard }], guard := some (2, true) } ?_
        try simp only [Act.put, List.setIfInBounds_toArray, List.set_cons_zero, List.set_cons_succ]
        refine tu 6 { dst := some 20, op := .fieldAddr 47 (.tmp 19) 0, type := 0, pos := "ref.go:145", after := #[{ on := 5, ground := .data }, { on := 2, ground := .guard }], guard := some (2, true) } ?_
        try simp only [Act.put, List.setIfInBounds_toArray, List.set_cons_zero, List.set_cons_succ]
        refine tu 7 { dst := some 21, op := .load 24 (.tmp 20), type := 24, pos := "ref.go:145", after := #[{ on := 6, ground := .data }, { on := 2, ground := .guard }], guard := some (2, true) } ?_
        try simp only [Act.put, List.setIfInBounds_toArray, List.set_cons_zero, List.set_cons_succ]
        refine tu 8 { dst := some 22, op := .fieldAddr 47 (.tmp 3) 0, type := 0, pos := "ref.go:145", after := #[{ on := 2, ground := .guard }], guard := some (2, true) } ?_
        try simp only [Act.put, List.setIfInBounds_toArray, List.set_cons_zero, List.set_cons_succ]
        refine tu 9 { dst := some 23, op := .load 24 (.tmp 22), type := 24, pos := "ref.go:145", after := #[{ on := 8, ground := .data }, { on := 2, ground := .guard }], guard := some (2, true) } ?_
        try simp only [Act.put, List.setIfInBounds_toArray, List.set_cons_zero, List.set_cons_succ]
        refine tu 10 { dst := some 24, op := .call { callee := .value (.func 21), args := #[.tmp 21, .tmp 23], argTypes := #[24, 24] }, type := 4, pos := "ref.go:145", after := #[{ on := 7, ground := .data }, { on := 9, ground := .data }, { on := 2, ground := .chain }, { on := 2, ground := .guard }], guard := some (2, true) } ?_
        try simp only [Act.put, List.setIfInBounds_toArray, List.set_cons_zero, List.set_cons_succ]
        refine tu 11 { dst := some 25, op := .unOp .not 4 (.tmp 24), type := 4, pos := "ref.go:145", after := #[{ on := 10, ground := .data }, { on := 2, ground := .guard }], guard := some (2, true) } ?_
        try simp only [Act.put, List.setIfInBounds_toArray, List.set_cons_zero, List.set_cons_succ]
        refine tk 12 { dst := some 26, op := .pick (.tmp 16) (.tmp 25) (.const (.bool false)), type := 4, pos := "ref.go:145", after := #[{ on := 2, ground := .data }, { on := 11, ground := .data }], guard := none } _ ?_
        try simp only [Act.put, List.setIfInBounds_toArray, List.set_cons_zero, List.set_cons_succ]
        refine wpAnyH_done (by kernel_rfl) ?_ _
        obtain ⟨⟨v0, v1, v2, v3⟩, x0, x1, x2, x3⟩ := HS.out _ hBr
        go_wp2_with fail
        go_quiet (fail)
        go_upto_region 9 with (fail)
        have hBz : Below w1.heap.size w1 (wr.drew.drewN nq) := below_drewN p0 _
        have hOz : OwnVs (wr.drew.drewN nq) w1.heap.size (.slice A' k c') out := hO.below (below_drewN (Below.refl _ _).drew _)
        generalize (wr.drew.drewN nq) = z at *
        have hsz := hBz.size
        obtain ⟨⟨v0, v1, v2, v3⟩, x0, x1, x2, x3⟩ := HS.out _ hBz
        go_wp2_with (at_builtin; with_reducible refine wpList_append_vers rfl (.tmp 39) (.tmp 44) rfl w1.heap.size A' k c' (out) hl.out rfl (hOz.below ((Below.refl _ _).alloc (Nat.le_refl _) _)) _ _ 1 1 [x] rfl (rd_one x _) ?hb2 ?hbase2 ?_)
        case hb2 => omega
        case hbase2 => simp; omega
        intro A5 c5 w5 hO5 hB5 _
        have hB15 := (hBz.alloc hsz _).trans hB5
        have hl5 : Hid ((out ++ [x]).length = k + 1) := by rw [List.length_append, hl.out]; exact Lib.hid rfl
        go_wp2_with fail
        go_roundw
        case rel => exact ⟨j + 1, k + 1, true, A5, c5, out ++ [x], by omega, by omega, (fun h => by cases h), by go_num, rfl, rfl, hl5, hO5, hWH, hB15⟩
        case measure => simp [intOf]; omega
    · obtain rfl : j = n := by omega
      have hdrop : vs.drop j = [] := List.drop_of_length_le (by rw [HN.out]; exact Nat.le_refl _)
      have hk0 := k0.below hBr k0.lt
      have v0 := hk0.cell 0
      have v1 := hk0.cell 1
      have v2 := hk0.cell 2
      have v3 := hk0.cell 3
      simp only [List.getElem?_cons_zero, List.getElem?_cons_succ] at v0 v1 v2 v3
      rcases bb with _ | _
      · have hW2 : withF v vs = out ++ [v] := by
          have h : withF v vs = out ++ withF v (vs.drop j) := hW.out
          rw [hdrop] at h
          exact h
        have hlen : Hid ((withF v vs).length = k + 1) := by rw [hW2, List.length_append, hl.out]; exact Lib.hid rfl
        have hWH := Lib.hid hW2
        clear hW hW2 hdrop
        go_wp2_with (at_builtin; with_reducible refine wpList_append_vers rfl (.tmp 48) (.tmp 50) rfl w1.heap.size A' k c' (out) hl.out rfl (hO.below ((Below.refl _ _).alloc (Nat.le_refl _) _)) _ _ 1 1 [v] rfl (rd_one v _) ?hb5 ?hbase5 ?_)
        case hb5 => omega
        case hbase5 => first | omega | (show _ ≤ (World.alloc _ _).heap.size; rw [size_al]; omega) | exact Nat.le_succ_of_le hsr
        intro A5 c5 w5 hO5 hB5 _
        have hB15 := (hBr.alloc hsr _).trans hB5
        go_wp2_with fail
        go_ret
        rw [hlen.out, hWH.out]
        refine ⟨A5, c5, rfl, ?_, hB0.out.trans (hB15.mono hB0.out.size)⟩
        have hs0 := hB0.out.size
        exact ⟨hO5.1, hO5.2.imp id (fun ⟨g, cap, cur, e, hb, r⟩ => ⟨g, cap, cur, e, by omega, r⟩)⟩
      · have hW2 : withF v vs = out := by
          have h : withF v vs = out ++ vs.drop j ∧ _ := hW.out
          rw [hdrop, List.append_nil] at h
          exact h.1
        have hlen : Hid ((withF v vs).length = k) := by rw [hW2]; exact hl
        have hWH := Lib.hid hW2
        clear hW hW2 hdrop
        go_wp2_with fail
        go_ret
        rw [hlen.out, hWH.out]
        refine ⟨A', c', rfl, ?_, hB0.out.trans (hBr.mono hB0.out.size)⟩
        have hs0 := hB0.out.size
        exact ⟨hO.1, hO.2.imp id (fun ⟨g, cap, cur, e, hb, r⟩ => ⟨g, cap, cur, e, by omega, r⟩)⟩
end Go.Proofs.Ytlkhmpfdajefiaa.ref8
