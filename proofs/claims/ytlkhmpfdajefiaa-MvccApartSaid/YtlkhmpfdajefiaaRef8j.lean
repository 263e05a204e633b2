/- What the document's Same (antipoderef8) comes to. Conditions: at most 2^40 cells and versions. -/
import Derived.Test.YtlkhmpfdajefiaaJoin1
import Derived.Deep.RegionHeld3
import Derived.Deep.Cut
import Derived.BigQuiet
namespace Go.Proofs.Ytlkhmpfdajefiaa.ref8
open Go Go.RowKit Go.Proofs.Ytlkhmpfdajefiaa.kit Go.Proofs.Ytlkhmpfdajefiaa.nums Go.Proofs.Ytlkhmpfdajefiaa.st Go.Proofs.Ytlkhmpfdajefiaa.mv
set_option linter.unusedVariables false

theorem blk_one {E : TypeId} {l : List Value} (w : World) (o : Obj) (h : o = .cells l.toArray E) : Blk E (w.alloc o) w.heap.size l := by subst h; exact heap_alloc_new w _
theorem blk_fst {E E' : TypeId} {l l' : List Value} (w : World) : Blk E ((w.alloc (.cells l.toArray E)).alloc (.cells l'.toArray E')).drew w.heap.size l := Blk.drew (Blk.alloc (heap_alloc_new w _) _)
theorem blk_snd {E E' : TypeId} {l l' : List Value} (w : World) : Blk E' ((w.alloc (.cells l.toArray E)).alloc (.cells l'.toArray E')).drew (w.heap.size + 1) l' := by
  have := heap_alloc_new (w.alloc (.cells l.toArray E)) (.cells l'.toArray E')
  refine Blk.drew ?_
  simpa [Blk] using this
theorem ne_bl (a b : Bool) (w : World) : (binOp BinOp.neq 4 (.bool a) (.bool b)).run Try.prog w = .ok (.bool (!decide (a = b))) w := by
  cases a <;> cases b <;> kernel_rfl
theorem not_same {as_ bs : List CellL} {j : Nat} {x y : CellL} (hx : as_[j]? = some x) (hy : bs[j]? = some y) (h : x ≠ y) : decide (as_ = bs) = false := decide_eq_false fun e => by
  subst e
  rw [hx] at hy
  exact h (Option.some.inj hy)
theorem take_same {α : Type} {as_ bs : List α} {j : Nat} {x : α} (hx : as_[j]? = some x) (hy : bs[j]? = some x) (h : as_.take j = bs.take j) : as_.take (j + 1) = bs.take (j + 1) := by
  obtain ⟨h1, rfl⟩ := List.getElem?_eq_some_iff.1 hx
  obtain ⟨h2, h3⟩ := List.getElem?_eq_some_iff.1 hy
  rw [List.take_succ_eq_append_getElem h1, List.take_succ_eq_append_getElem h2, h, h3]
set_option maxRecDepth 100000 in
set_option maxHeartbeats 4000000 in
theorem same_any (A : Option Addr) (n c : Nat) (as_ : List CellL) (A' : Option Addr) (m d : Nat) (bs : List CellL) (w : World) (B : Nat) (hR : RdC w B A n as_) (hR' : RdC w B A' m bs) (hB : B ≤ w.heap.size) (hn : n ≤ 1099511627776) (hm : m ≤ 1099511627776) (hf : ∀ x ∈ as_, x.vers.length ≤ 1099511627776) (hf' : ∀ x ∈ bs, x.vers.length ≤ 1099511627776) :
    Calls Try.prog 15 #[.slice A n c, .slice A' m d] w fun e w' => e = .returned (.bool (decide (as_ = bs))) ∧ Below w.heap.size w w' := by
  obtain rfl : as_.length = n := hR.1
  obtain rfl : bs.length = m := hR'.1
  have HR := Lib.hid (fun j (hj : j < as_.length) => hR.at_ hj)
  have HR' := Lib.hid (fun j (hj : j < bs.length) => hR'.at_ hj)
  have HF := Lib.hid hf
  have HF' := Lib.hid hf'
  have NB := Lib.hid ne_bl
  have NL := Lib.hid ne_lk
  have NV := Lib.hid ne_ver
  unfold lockC at NL
  unfold verC at NV
  clear hR hR' hf hf'
  by_cases hlen : as_.length = bs.length
  · have HLEN := Lib.hid hlen
    clear hlen
    go_enter Try.func15, Try.ntmps15
    have hl1 : ((as_.length : Int) != bs.length) = false := by rw [HLEN.out]; simp
    go_wp2_with fail
    go_loopw [5] (fun iv wr => ∃ j : Nat, j ≤ as_.length ∧ iv = .int .i64 j ∧ Hid (as_.take j = bs.take j) ∧ Below w.heap.size w wr) (fun iv _ => as_.length - (intOf iv).toNat)
    case atStart => exact ⟨0, Nat.zero_le _, rfl, rfl, Below.refl _ _⟩
    case round =>
      obtain ⟨j, hj, rfl, hT, hBr⟩ := hrel
      have hsr := hBr.size
      by_cases hlt : j < as_.length
      · have hlt' : j < bs.length := by have := HLEN.out; omega
        obtain ⟨b1, o1, x, sv, rfl, hb1, hx, hS, hA⟩ := HR.out j hlt
        obtain ⟨b2, o2, y, sv', rfl, hb2, hy, hS', hA'⟩ := HR'.out j hlt'
        have hvx := HF.out x (List.mem_of_getElem? hx)
        have hvy := HF'.out y (List.mem_of_getElem? hy)
        obtain ⟨As, cv, rfl, hc1, _, hRv⟩ := hS
        obtain ⟨Bs, dv, rfl, hd1, _, hRv'⟩ := hS'
        have HNS := Lib.hid (not_same hx hy)
        have HTS := Lib.hid (fun (e : x = y) => take_same (x := x) hx (by rw [e]; exact hy) hT.out)
        clear hT hx hy
        obtain ⟨xk, xv, xl, lx⟩ := x
        obtain ⟨yk, yv, yl, ly⟩ := y
        dsimp only at hvx hvy hc1 hd1 hRv hRv'
        have HS : Hid (∀ wq, Below wr.heap.size wr wq → (wq.cell? ⟨b1, o1 + j * 12, none⟩ = some (.string xk) ∧ wq.cell? ⟨b1, o1 + j * 12 + 1, none⟩ = some (.slice As xv.length cv) ∧ wq.cell? ⟨b1, o1 + j * 12 + 2, none⟩ = some (.bool xl) ∧ wq.cell? ⟨b1, o1 + j * 12 + 3, none⟩ = some (.int .i64 lx.by_.node) ∧ wq.cell? ⟨b1, o1 + j * 12 + 4, none⟩ = some (.int .i64 lx.by_.life) ∧ wq.cell? ⟨b1, o1 + j * 12 + 5, none⟩ = some (.int .i64 lx.by_.seq) ∧ wq.cell? ⟨b1, o1 + j * 12 + 6, none⟩ = some (.int .i64 lx.by_.att) ∧ wq.cell? ⟨b1, o1 + j * 12 + 7, none⟩ = some (.int .i64 lx.home) ∧ wq.cell? ⟨b1, o1 + j * 12 + 8, none⟩ = some (.int .i64 lx.at_.wall) ∧ wq.cell? ⟨b1, o1 + j * 12 + 9, none⟩ = some (.int .i64 lx.at_.tie) ∧ wq.cell? ⟨b1, o1 + j * 12 + 10, none⟩ = some (.bool lx.drop) ∧ wq.cell? ⟨b1, o1 + j * 12 + 11, none⟩ = some (.string lx.data)) ∧ wq.cell? ⟨b2, o2 + j * 12, none⟩ = some (.string yk) ∧ wq.cell? ⟨b2, o2 + j * 12 + 1, none⟩ = some (.slice Bs yv.length dv) ∧ wq.cell? ⟨b2, o2 + j * 12 + 2, none⟩ = some (.bool yl) ∧ wq.cell? ⟨b2, o2 + j * 12 + 3, none⟩ = some (.int .i64 ly.by_.node) ∧ wq.cell? ⟨b2, o2 + j * 12 + 4, none⟩ = some (.int .i64 ly.by_.life) ∧ wq.cell? ⟨b2, o2 + j * 12 + 5, none⟩ = some (.int .i64 ly.by_.seq) ∧ wq.cell? ⟨b2, o2 + j * 12 + 6, none⟩ = some (.int .i64 ly.by_.att) ∧ wq.cell? ⟨b2, o2 + j * 12 + 7, none⟩ = some (.int .i64 ly.home) ∧ wq.cell? ⟨b2, o2 + j * 12 + 8, none⟩ = some (.int .i64 ly.at_.wall) ∧ wq.cell? ⟨b2, o2 + j * 12 + 9, none⟩ = some (.int .i64 ly.at_.tie) ∧ wq.cell? ⟨b2, o2 + j * 12 + 10, none⟩ = some (.bool ly.drop) ∧ wq.cell? ⟨b2, o2 + j * 12 + 11, none⟩ = some (.string ly.data)) := fun wq hq => by
          have h1 := at12 ((hA.below (show b1 < w.heap.size by omega) (hBr.trans (hq.mono hsr))))
          have h2 := at12 ((hA'.below (show b2 < w.heap.size by omega) (hBr.trans (hq.mono hsr))))
          exact ⟨h1, h2⟩
        have HV : Hid (∀ wq, Below wr.heap.size wr wq → ∀ k, k < xv.length → k < yv.length → ∃ p1 q1 u p2 q2 v, As = some ⟨p1, q1, none⟩ ∧ Bs = some ⟨p2, q2, none⟩ ∧ xv[k]? = some u ∧ yv[k]? = some v ∧ At wq p1 (q1 + k * 4) (verC u) ∧ At wq p2 (q2 + k * 4) (verC v)) := fun wq hq k hk hk' => by
          have hq2 := hBr.trans (hq.mono hsr)
          obtain ⟨p1, q1, u, e1, hp1, hu, hAu⟩ := hRv.at_ hk
          obtain ⟨p2, q2, v, e2, hp2, hv, hAv⟩ := hRv'.at_ hk'
          exact ⟨p1, q1, u, p2, q2, v, e1, e2, hu, hv, hAu.below (show p1 < w.heap.size by omega) hq2, hAv.below (show p2 < w.heap.size by omega) hq2⟩
        clear hA hA' hRv hRv'
        go_upto_region 6 with (fail)
        go_cut [6, 7] from 200 (fun s6 s7 wx => ∃ g1 g2, s6 = .pointer (some ⟨g1, 0, none⟩) ∧ s7 = .pointer (some ⟨g2, 0, none⟩) ∧ Blk 45 wx g1 [.string xk, .slice As xv.length cv, .bool xl, .int .i64 lx.by_.node, .int .i64 lx.by_.life, .int .i64 lx.by_.seq, .int .i64 lx.by_.att, .int .i64 lx.home, .int .i64 lx.at_.wall, .int .i64 lx.at_.tie, .bool lx.drop, .string lx.data] ∧ Blk 45 wx g2 [.string yk, .slice Bs yv.length dv, .bool yl, .int .i64 ly.by_.node, .int .i64 ly.by_.life, .int .i64 ly.by_.seq, .int .i64 ly.by_.att, .int .i64 ly.home, .int .i64 ly.at_.wall, .int .i64 ly.at_.tie, .bool ly.drop, .string ly.data] ∧ Below wr.heap.size wr wx)
        case first =>
          refine wp_region_held_drew (S := fun wq => (wq.cell? ⟨b1, o1 + j * 12, none⟩ = some (.string xk) ∧ wq.cell? ⟨b1, o1 + j * 12 + 1, none⟩ = some (.slice As xv.length cv) ∧ wq.cell? ⟨b1, o1 + j * 12 + 2, none⟩ = some (.bool xl) ∧ wq.cell? ⟨b1, o1 + j * 12 + 3, none⟩ = some (.int .i64 lx.by_.node) ∧ wq.cell? ⟨b1, o1 + j * 12 + 4, none⟩ = some (.int .i64 lx.by_.life) ∧ wq.cell? ⟨b1, o1 + j * 12 + 5, none⟩ = some (.int .i64 lx.by_.seq) ∧ wq.cell? ⟨b1, o1 + j * 12 + 6, none⟩ = some (.int .i64 lx.by_.att) ∧ wq.cell? ⟨b1, o1 + j * 12 + 7, none⟩ = some (.int .i64 lx.home) ∧ wq.cell? ⟨b1, o1 + j * 12 + 8, none⟩ = some (.int .i64 lx.at_.wall) ∧ wq.cell? ⟨b1, o1 + j * 12 + 9, none⟩ = some (.int .i64 lx.at_.tie) ∧ wq.cell? ⟨b1, o1 + j * 12 + 10, none⟩ = some (.bool lx.drop) ∧ wq.cell? ⟨b1, o1 + j * 12 + 11, none⟩ = some (.string lx.data)) ∧ wq.cell? ⟨b2, o2 + j * 12, none⟩ = some (.string yk) ∧ wq.cell? ⟨b2, o2 + j * 12 + 1, none⟩ = some (.slice Bs yv.length dv) ∧ wq.cell? ⟨b2, o2 + j * 12 + 2, none⟩ = some (.bool yl) ∧ wq.cell? ⟨b2, o2 + j * 12 + 3, none⟩ = some (.int .i64 ly.by_.node) ∧ wq.cell? ⟨b2, o2 + j * 12 + 4, none⟩ = some (.int .i64 ly.by_.life) ∧ wq.cell? ⟨b2, o2 + j * 12 + 5, none⟩ = some (.int .i64 ly.by_.seq) ∧ wq.cell? ⟨b2, o2 + j * 12 + 6, none⟩ = some (.int .i64 ly.by_.att) ∧ wq.cell? ⟨b2, o2 + j * 12 + 7, none⟩ = some (.int .i64 ly.home) ∧ wq.cell? ⟨b2, o2 + j * 12 + 8, none⟩ = some (.int .i64 ly.at_.wall) ∧ wq.cell? ⟨b2, o2 + j * 12 + 9, none⟩ = some (.int .i64 ly.at_.tie) ∧ wq.cell? ⟨b2, o2 + j * 12 + 10, none⟩ = some (.bool ly.drop) ∧ wq.cell? ⟨b2, o2 + j * 12 + 11, none⟩ = some (.string ly.data)) (by kernel_rfl) ?s_0 (fun hHeld => ?_)
          case s_0 => exact HS.out _ ((Below.refl _ _).drew)
          refine tk 0 { dst := some 20, op := .move (.tmp 0), type := 31, pos := "ref.go:204", after := #[], guard := none } _ ?_
          try simp only [Act.put, List.setIfInBounds_toArray, List.set_cons_zero, List.set_cons_succ]
          refine tk 1 { dst := some 21, op := .move (.tmp 5), type := 3, pos := "ref.go:204", after := #[], guard := none } _ ?_
          try simp only [Act.put, List.setIfInBounds_toArray, List.set_cons_zero, List.set_cons_succ]
          refine tk 2 { dst := some 22, op := .indexAddr 31 (.tmp 20) (.tmp 21), type := 0, pos := "ref.go:204", after := #[{ on := 0, ground := .data }, { on := 1, ground := .data }], guard := none } _ ?_
          try simp only [Act.put, List.setIfInBounds_toArray, List.set_cons_zero, List.set_cons_succ]
          refine tk 3 { dst := some 23, op := .load 45 (.tmp 22), type := 45, pos := "ref.go:204", after := #[{ on := 2, ground := .data }], guard := none } _ ?_
          try simp only [Act.put, List.setIfInBounds_toArray, List.set_cons_zero, List.set_cons_succ]
          refine tk 4 { dst := some 24, op := .move (.tmp 1), type := 31, pos := "ref.go:204", after := #[{ on := 10, ground := .gcOnly Go.Departure.lateStores }], guard := none } _ ?_
          try simp only [Act.put, List.setIfInBounds_toArray, List.set_cons_zero, List.set_cons_succ]
          refine tk 5 { dst := some 25, op := .move (.tmp 5), type := 3, pos := "ref.go:204", after := #[{ on := 10, ground := .gcOnly Go.Departure.lateStores }], guard := none } _ ?_
          try simp only [Act.put, List.setIfInBounds_toArray, List.set_cons_zero, List.set_cons_succ]
          refine tk 6 { dst := some 26, op := .indexAddr 31 (.tmp 24) (.tmp 25), type := 0, pos := "ref.go:204", after := #[{ on := 4, ground := .data }, { on := 5, ground := .data }, { on := 10, ground := .gcOnly Go.Departure.lateStores }], guard := none } _ ?_
          try simp only [Act.put, List.setIfInBounds_toArray, List.set_cons_zero, List.set_cons_succ]
          refine tk 7 { dst := some 27, op := .load 45 (.tmp 26), type := 45, pos := "ref.go:204", after := #[{ on := 6, ground := .data }, { on := 10, ground := .gcOnly Go.Departure.lateStores }], guard := none } _ ?_
          try simp only [Act.put, List.setIfInBounds_toArray, List.set_cons_zero, List.set_cons_succ]
          refine wpAnyH_ready (rs := [8, 9]) (by kernel_rfl) (by simp) ?_
          refine AllReadyH.cons (o := { dst := some 6, op := .alloc 45, type := 0, pos := "ref.go:204", after := #[], guard := none }) rfl (fun KQ hKQ => ?_) (AllReadyH.cons (o := { dst := some 7, op := .alloc 45, type := 0, pos := "ref.go:204", after := #[], guard := none }) rfl (fun KQ hKQ => ?_) AllReadyH.nil)
          · go_simp
            refine hKQ.out _ _ ?s_8a (fun hHeld8 => ?_)
            case s_8a => exact HS.out _ (by go_grown)
            clear hKQ KQ
            try simp only [Act.put, List.setIfInBounds_toArray, List.set_cons_zero, List.set_cons_succ]
            refine wpAnyH_ready (rs := [9]) (by kernel_rfl) (by simp) ?_
            refine AllReadyH.cons (o := { dst := some 7, op := .alloc 45, type := 0, pos := "ref.go:204", after := #[], guard := none }) rfl (fun KQ hKQ => ?_) AllReadyH.nil
            go_simp
            refine hKQ.out _ _ ?s_9a (fun hHeld9 => ?_)
            case s_9a => exact HS.out _ (by go_grown)
            clear hKQ KQ
            try simp only [Act.put, List.setIfInBounds_toArray, List.set_cons_zero, List.set_cons_succ]
            refine wpAnyH_ready (rs := [10]) (by kernel_rfl) (by simp) ?_
            refine AllReadyH.cons (o := { dst := none, op := .store 45 (.tmp 6) (.tmp 23), type := 0, pos := "ref.go:204", after := #[{ on := 8, ground := .data }, { on := 3, ground := .data }, { on := 0, ground := .phase }, { on := 1, ground := .phase }, { on := 2, ground := .phase }, { on := 3, ground := .phase }, { on := 4, ground := .textOnly Go.Departure.lateStores }, { on := 5, ground := .textOnly Go.Departure.lateStores }, { on := 6, ground := .textOnly Go.Departure.lateStores }, { on := 7, ground := .textOnly Go.Departure.lateStores }, { on := 8, ground := .phase }, { on := 9, ground := .phase }], guard := none }) rfl (fun KQ hKQ => ?_) AllReadyH.nil
            go_simp
            refine hKQ.out _ _ ?s_10a (fun hHeld10 => ?_)
            case s_10a => exact HS.out _ (by go_grown)
            clear hKQ KQ
            try simp only [Act.put]
            refine wpAnyH_ready (rs := [11]) (by kernel_rfl) (by simp) ?_
            refine AllReadyH.cons (o := { dst := none, op := .store 45 (.tmp 7) (.tmp 27), type := 0, pos := "ref.go:204", after := #[{ on := 9, ground := .data }, { on := 7, ground := .data }, { on := 10, ground := .chain }, { on := 0, ground := .phase }, { on := 1, ground := .phase }, { on := 2, ground := .phase }, { on := 3, ground := .phase }, { on := 4, ground := .phase }, { on := 5, ground := .phase }, { on := 6, ground := .phase }, { on := 7, ground := .phase }, { on := 8, ground := .phase }, { on := 9, ground := .phase }, { on := 10, ground := .phase }], guard := none }) rfl (fun KQ hKQ => ?_) AllReadyH.nil
            go_simp
            refine hKQ.out _ _ ?s_11a (fun hHeld11 => ?_)
            case s_11a => exact HS.out _ (by go_grown)
            clear hKQ KQ
            try simp only [Act.put]
            refine wpAnyH_done (by kernel_rfl) ?_ _
            go_wp2_with fail
            go_meet
            case rel => exact ⟨_, _, rfl, rfl, by first | exact blk_fst _ | exact blk_snd _, by first | exact blk_fst _ | exact blk_snd _, by go_grown⟩
          · go_simp
            refine hKQ.out _ _ ?s_9b (fun hHeld9 => ?_)
            case s_9b => exact HS.out _ (by go_grown)
            clear hKQ KQ
            try simp only [Act.put, List.setIfInBounds_toArray, List.set_cons_zero, List.set_cons_succ]
            refine wpAnyH_ready (rs := [8]) (by kernel_rfl) (by simp) ?_
            refine AllReadyH.cons (o := { dst := some 6, op := .alloc 45, type := 0, pos := "ref.go:204", after := #[], guard := none }) rfl (fun KQ hKQ => ?_) AllReadyH.nil
            go_simp
            refine hKQ.out _ _ ?s_8b (fun hHeld8 => ?_)
            case s_8b => exact HS.out _ (by go_grown)
            clear hKQ KQ
            try simp only [Act.put, List.setIfInBounds_toArray, List.set_cons_zero, List.set_cons_succ]
            refine wpAnyH_ready (rs := [10]) (by kernel_rfl) (by simp) ?_
            refine AllReadyH.cons (o := { dst := none, op := .store 45 (.tmp 6) (.tmp 23), type := 0, pos := "ref.go:204", after := #[{ on := 8, ground := .data }, { on := 3, ground := .data }, { on := 0, ground := .phase }, { on := 1, ground := .phase }, { on := 2, ground := .phase }, { on := 3, ground := .phase }, { on := 4, ground := .textOnly Go.Departure.lateStores }, { on := 5, ground := .textOnly Go.Departure.lateStores }, { on := 6, ground := .textOnly Go.Departure.lateStores }, { on := 7, ground := .textOnly Go.Departure.lateStores }, { on := 8, ground := .phase }, { on := 9, ground := .phase }], guard := none }) rfl (fun KQ hKQ => ?_) AllReadyH.nil
            go_simp
            refine hKQ.out _ _ ?s_10b (fun hHeld10 => ?_)
            case s_10b => exact HS.out _ (by go_grown)
            clear hKQ KQ
            try simp only [Act.put]
            refine wpAnyH_ready (rs := [11]) (by kernel_rfl) (by simp) ?_
            refine AllReadyH.cons (o := { dst := none, op := .store 45 (.tmp 7) (.tmp 27), type := 0, pos := "ref.go:204", after := #[{ on := 9, ground := .data }, { on := 7, ground := .data }, { on := 10, ground := .chain }, { on := 0, ground := .phase }, { on := 1, ground := .phase }, { on := 2, ground := .phase }, { on := 3, ground := .phase }, { on := 4, ground := .phase }, { on := 5, ground := .phase }, { on := 6, ground := .phase }, { on := 7, ground := .phase }, { on := 8, ground := .phase }, { on := 9, ground := .phase }, { on := 10, ground := .phase }], guard := none }) rfl (fun KQ hKQ => ?_) AllReadyH.nil
            go_simp
            refine hKQ.out _ _ ?s_11b (fun hHeld11 => ?_)
            case s_11b => exact HS.out _ (by go_grown)
            clear hKQ KQ
            try simp only [Act.put]
            refine wpAnyH_done (by kernel_rfl) ?_ _
            go_wp2_with fail
            go_meet
            case rel => exact ⟨_, _, rfl, rfl, by first | exact blk_fst _ | exact blk_snd _, by first | exact blk_fst _ | exact blk_snd _, by go_grown⟩
        case rest =>
          obtain ⟨g1, g2, rfl, rfl, kx, ky, hBc⟩ := hcut
          have hBw := hBr.trans (hBc.mono hsr)
          obtain ⟨e0, e1, e2, e3, e4, e5, e6, e7, e8, e9, e10, e11⟩ := blk12 kx
          obtain ⟨f0, f1, f2, f3, f4, f5, f6, f7, f8, f9, f10, f11⟩ := blk12 ky
          clear HS
          have nb := NB.out xl yl
          have nl := NL.out lx ly
          by_cases hk : xk = yk
          · have tk : (xk.toList == yk.toList) = true := by rw [hk]; simp
            by_cases hb : xl = yl
            · simp only [decide_eq_true hb, Bool.not_true] at nb
              by_cases hl : lx = ly
              · simp only [decide_eq_true hl, Bool.not_true] at nl
                by_cases hv : xv.length = yv.length
                · have tv : ((xv.length : Int) == yv.length) = true := by rw [hv]; simp
                  have HEQ := Lib.hid (show xk = yk ∧ xl = yl ∧ lx = ly ∧ xv.length = yv.length from ⟨hk, hb, hl, hv⟩)
                  clear hk hb hl hv
                  go_wp2_with fail
                  clear e0 e1 e2 e3 e4 e5 e6 e7 e8 e9 e10 e11 f0 f1 f2 f3 f4 f5 f6 f7 f8 f9 f10 f11 nb nl tk tv
                  go_loopw [8] (fun kv wz => ∃ k : Nat, k ≤ xv.length ∧ kv = .int .i64 k ∧ Hid (xv.take k = yv.take k) ∧ Below wc.heap.size wc wz) (fun kv _ => xv.length - (intOf kv).toNat)
                  case atStart => exact ⟨0, Nat.zero_le _, rfl, rfl, Below.refl _ _⟩
                  case round =>
                    obtain ⟨k, hkl, rfl, hTk, hBz⟩ := hrel
                    have kxz := kx.below hBz kx.lt
                    have kyz := ky.below hBz ky.lt
                    have x1 := kxz.cell 1
                    have y1 := kyz.cell 1
                    simp only [List.getElem?_cons_zero, List.getElem?_cons_succ] at x1 y1
                    by_cases hkk : k < xv.length
                    · have hkk' : k < yv.length := by have := HEQ.out.2.2.2; omega
                      obtain ⟨p1, q1, u, p2, q2, v, rfl, rfl, hu, hv, hAu, hAv⟩ := HV.out wr (hBc.trans (hBz.mono hBc.size)) k hkk hkk'
                      obtain ⟨u0, u1, u2, u3⟩ := at4 hAu
                      obtain ⟨v0, v1, v2, v3⟩ := at4 hAv
                      have nv := NV.out u v
                      by_cases huv : u = v
                      · have hT2 := Lib.hid (take_same (x := u) hu (by rw [huv]; exact hv) hTk.out)
                        simp only [decide_eq_true huv, Bool.not_true] at nv
                        clear huv hTk hu hv hAu hAv
                        go_wp2_with fail
                        go_quiet (fail)
                        go_wp2_with fail
                        go_roundw
                        case rel => exact ⟨k + 1, by omega, by go_num, hT2, below_drewN hBz _⟩
                        case measure => simp [intOf]; omega
                      · have hD := Lib.hid (HNS.out (fun e => by
                          simp only [CellL.mk.injEq] at e
                          rw [e.2.1, hv] at hu
                          exact huv (Option.some.inj hu).symm))
                        simp only [decide_eq_false huv, Bool.not_false] at nv
                        clear huv hTk hu hv hAu hAv
                        have hBf := hBw.trans (hBz.mono hBw.size)
                        go_wp2_with fail
                        go_quiet (fail)
                        go_wp2_with fail
                        go_ret
                        exact ⟨by rw [hD.out]; rfl, below_drewN hBf _⟩
                    · obtain rfl : k = xv.length := by omega
                      have hVV : xv = yv := by
                        have h := hTk.out
                        rw [List.take_length, HEQ.out.2.2.2, List.take_length] at h
                        exact h
                      have hT2 := Lib.hid (HTS.out (by rw [CellL.mk.injEq]; exact ⟨HEQ.out.1, hVV, HEQ.out.2.1, HEQ.out.2.2.1⟩))
                      have hBf := hBw.trans (hBz.mono hBw.size)
                      clear hVV hTk
                      go_wp2_with fail
                      go_roundw
                      case rel => exact ⟨j + 1, by omega, by go_num, hT2, hBf⟩
                      case measure => simp [intOf]; omega
                · have tv : ((xv.length : Int) == yv.length) = false := by simp; omega
                  have hD := Lib.hid (HNS.out (fun e => hv (by simp only [CellL.mk.injEq] at e; rw [e.2.1])))
                  clear hk hb hl hv
                  go_wp2_with fail
                  go_ret
                  exact ⟨by rw [hD.out]; rfl, hBw⟩
              · simp only [decide_eq_false hl, Bool.not_false] at nl
                have hD := Lib.hid (HNS.out (fun e => hl (by simp only [CellL.mk.injEq] at e; exact e.2.2.2)))
                clear hk hb hl
                go_wp2_with fail
                go_ret
                exact ⟨by rw [hD.out]; rfl, hBw⟩
            · simp only [decide_eq_false hb, Bool.not_false] at nb
              have hD := Lib.hid (HNS.out (fun e => hb (by simp only [CellL.mk.injEq] at e; exact e.2.2.1)))
              clear hk hb
              go_wp2_with fail
              go_ret
              exact ⟨by rw [hD.out]; rfl, hBw⟩
          · have tk : (xk.toList == yk.toList) = false := by rw [text_eq]; exact decide_eq_false hk
            have hD := Lib.hid (HNS.out (fun e => hk (by simp only [CellL.mk.injEq] at e; exact e.1)))
            clear hk
            go_wp2_with fail
            go_ret
            exact ⟨by rw [hD.out]; rfl, hBw⟩
      · obtain rfl : j = as_.length := by omega
        have hE : as_ = bs := by
          have h := hT.out
          rw [List.take_length, HLEN.out, List.take_length] at h
          exact h
        have hD : Hid (decide (as_ = bs) = true) := decide_eq_true hE
        go_wp2_with fail
        go_ret
        exact ⟨by rw [hD.out]; rfl, hBr⟩
  · have hne : decide (as_ = bs) = false := decide_eq_false fun e => hlen (by rw [e])
    rw [hne]
    have hl1 : ((as_.length : Int) == bs.length) = false := by simp; omega
    go_enter Try.func15, Try.ntmps15
    go_wp2_with fail
    go_ret
    exact ⟨rfl, Below.refl _ _⟩
end Go.Proofs.Ytlkhmpfdajefiaa.ref8
