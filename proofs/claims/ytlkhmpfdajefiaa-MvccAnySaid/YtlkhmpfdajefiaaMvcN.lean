/- What the program's May (mvcc) comes to. Conditions: few cells, few versions. -/
import Derived.Test.YtlkhmpfdajefiaaMvcM
namespace Go.Proofs.Ytlkhmpfdajefiaa.mvi
open Go Go.RowKit Go.Proofs.Ytlkhmpfdajefiaa.kit Go.Proofs.Ytlkhmpfdajefiaa.nums Go.Proofs.Ytlkhmpfdajefiaa.st Go.Proofs.Ytlkhmpfdajefiaa.mv Go.Proofs.Ytlkhmpfdajefiaa.ref8
set_option linter.unusedVariables false

set_option maxRecDepth 100000 in
set_option maxHeartbeats 4000000 in
theorem may_any (A : Option Addr) (n c : Nat) (cs : List CellL) (w : World) (B : Nat) (hR : RdC w B A n cs) (hB : B ≤ w.heap.size) (hf : Few cs) :
    Calls Try.prog 19 #[.slice A n c] w (RetB w (okC cs)) := by
  obtain rfl : cs.length = n := hR.1
  have hn2 := hf.1
  have HR := Lib.hid (fun j (hj : j < cs.length) => hR.at_ hj)
  have HF := Lib.hid hf.2
  have MC := Lib.hid (fun (x : CellL) (sv : Value) (wq : World) (h : Below w.heap.size w wq) (hS : SlVs w B sv x.vers) (hv : x.vers.length ≤ 1000) => mayCell_any x sv wq B (hS.below (h.mono hB)) (by have := h.size; omega) hv)
  clear hR hf
  go_enter Try.func19, Try.ntmps19
  go_wp2_with fail
  go_loopw [7] (fun iv wr => ∃ j : Nat, j ≤ cs.length ∧ iv = .int .i64 j ∧ Hid (okC (cs.take j)) ∧ Below w.heap.size w wr) (fun iv _ => cs.length - (intOf iv).toNat)
  case atStart => exact ⟨0, Nat.zero_le _, rfl, ok_none, Below.refl _ _⟩
  case round =>
    obtain ⟨j, hj, rfl, hT, hBr⟩ := hrel
    have hsr := hBr.size
    by_cases hlt : j < cs.length
    · obtain ⟨b1, o1, x, sv, rfl, hb1, hx, hS, hA⟩ := HR.out j hlt
      have hvx := HF.out x (List.mem_of_getElem? hx)
      have HSTEP := Lib.hid (ok_step hx)
      have HALL := Lib.hid (fun (h : okC cs) => ok_take h (j + 1))
      have MCx := Lib.hid (fun (wq : World) (h : Below w.heap.size w wq) => MC.out x sv wq h hS hvx)
      obtain ⟨As, cv, rfl, hc1, _, hRv⟩ := hS
      unfold cellC at MCx
      obtain ⟨a0, a1, a2, a3, a4, a5, a6, a7, a8, a9, a10, a11⟩ := at12 (hA.below (show b1 < w.heap.size by omega) hBr)
      have hBx := hBr.alloc hsr (.cells #[.string x.key, .slice As x.vers.length cv, .bool x.locked, .int .i64 x.lock.by_.node, .int .i64 x.lock.by_.life, .int .i64 x.lock.by_.seq, .int .i64 x.lock.by_.att, .int .i64 x.lock.home, .int .i64 x.lock.at_.wall, .int .i64 x.lock.at_.tie, .bool x.lock.drop, .string x.lock.data] 45)
      have kx : Blk 45 (wr.alloc (.cells #[.string x.key, .slice As x.vers.length cv, .bool x.locked, .int .i64 x.lock.by_.node, .int .i64 x.lock.by_.life, .int .i64 x.lock.by_.seq, .int .i64 x.lock.by_.att, .int .i64 x.lock.home, .int .i64 x.lock.at_.wall, .int .i64 x.lock.at_.tie, .bool x.lock.drop, .string x.lock.data] 45)) wr.heap.size [.string x.key, .slice As x.vers.length cv, .bool x.locked, .int .i64 x.lock.by_.node, .int .i64 x.lock.by_.life, .int .i64 x.lock.by_.seq, .int .i64 x.lock.by_.att, .int .i64 x.lock.home, .int .i64 x.lock.at_.wall, .int .i64 x.lock.at_.tie, .bool x.lock.drop, .string x.lock.data] := heap_alloc_new wr _
      clear hA hx hRv
      go_upto_region 4 with (fail)
      clear a0 a1 a2 a3 a4 a5 a6 a7 a8 a9 a10 a11
      generalize (wr.alloc (.cells #[.string x.key, .slice As x.vers.length cv, .bool x.locked, .int .i64 x.lock.by_.node, .int .i64 x.lock.by_.life, .int .i64 x.lock.by_.seq, .int .i64 x.lock.by_.att, .int .i64 x.lock.home, .int .i64 x.lock.at_.wall, .int .i64 x.lock.at_.tie, .bool x.lock.drop, .string x.lock.data] 45)) = y at *
      obtain ⟨g, hg⟩ : ∃ g, wr.heap.size = g := ⟨_, rfl⟩
      rw [hg] at kx ⊢
      have hyl := kx.lt
      have p0 : Below y.heap.size y y.drew := (Below.refl _ _).drew
      have hBwx := hBx
      rcases j with _ | i
      · have HMORE : Hid (True → cellP x → okC (cs.take (0 + 1))) := fun _ h => HSTEP.out.2 ⟨hT.out, (fun z h0 => absurd h0 (by omega)), h⟩
        have HNOT : Hid (¬ cellP x → ¬ okC cs) := fun h hc => h (HSTEP.out.1 (HALL.out hc)).2.2
        have HS : Hid (∀ wq, Below y.heap.size y wq → (wq.cell? ⟨g, 0, none⟩ = some (.string x.key) ∧ wq.cell? ⟨g, 1, none⟩ = some (.slice As x.vers.length cv) ∧ wq.cell? ⟨g, 2, none⟩ = some (.bool x.locked) ∧ wq.cell? ⟨g, 3, none⟩ = some (.int .i64 x.lock.by_.node) ∧ wq.cell? ⟨g, 4, none⟩ = some (.int .i64 x.lock.by_.life) ∧ wq.cell? ⟨g, 5, none⟩ = some (.int .i64 x.lock.by_.seq) ∧ wq.cell? ⟨g, 6, none⟩ = some (.int .i64 x.lock.by_.att) ∧ wq.cell? ⟨g, 7, none⟩ = some (.int .i64 x.lock.home) ∧ wq.cell? ⟨g, 8, none⟩ = some (.int .i64 x.lock.at_.wall) ∧ wq.cell? ⟨g, 9, none⟩ = some (.int .i64 x.lock.at_.tie) ∧ wq.cell? ⟨g, 10, none⟩ = some (.bool x.lock.drop) ∧ wq.cell? ⟨g, 11, none⟩ = some (.string x.lock.data))) := fun wq hq => blk12 (kx.below hq hyl)
        clear HSTEP HALL hT
        refine wp_region_held_drew (S := fun wq => (wq.cell? ⟨g, 0, none⟩ = some (.string x.key) ∧ wq.cell? ⟨g, 1, none⟩ = some (.slice As x.vers.length cv) ∧ wq.cell? ⟨g, 2, none⟩ = some (.bool x.locked) ∧ wq.cell? ⟨g, 3, none⟩ = some (.int .i64 x.lock.by_.node) ∧ wq.cell? ⟨g, 4, none⟩ = some (.int .i64 x.lock.by_.life) ∧ wq.cell? ⟨g, 5, none⟩ = some (.int .i64 x.lock.by_.seq) ∧ wq.cell? ⟨g, 6, none⟩ = some (.int .i64 x.lock.by_.att) ∧ wq.cell? ⟨g, 7, none⟩ = some (.int .i64 x.lock.home) ∧ wq.cell? ⟨g, 8, none⟩ = some (.int .i64 x.lock.at_.wall) ∧ wq.cell? ⟨g, 9, none⟩ = some (.int .i64 x.lock.at_.tie) ∧ wq.cell? ⟨g, 10, none⟩ = some (.bool x.lock.drop) ∧ wq.cell? ⟨g, 11, none⟩ = some (.string x.lock.data))) (by kernel_rfl) ?s_lmay0 (fun hHeld => ?_)
        case s_lmay0 => exact HS.out _ p0
        refine tk 0 { dst := some 12, op := .move (.tmp 3), type := 3, pos := "mvcc.go:15", after := #[], guard := none } _ ?_
        try simp only [Act.put, List.setIfInBounds_toArray, List.set_cons_zero, List.set_cons_succ]
        refine tk 1 { dst := some 13, op := .binOp .gtr 3 (.tmp 12) (.const (.int .i64 0)) 3, type := 4, pos := "mvcc.go:15", after := #[{ on := 0, ground := .data }], guard := none } _ ?_
        try simp only [Act.put, List.setIfInBounds_toArray, List.set_cons_zero, List.set_cons_succ]
        refine tk 2 { dst := some 14, op := .move (.tmp 13), type := 4, pos := "mvcc.go:15", after := #[{ on := 1, ground := .data }], guard := none } _ ?_
        try simp only [Act.put, List.setIfInBounds_toArray, List.set_cons_zero, List.set_cons_succ]
        refine tu 3 { dst := some 15, op := .move (.tmp 0), type := 31, pos := "mvcc.go:15", after := #[{ on := 2, ground := .guard }], guard := some (2, true) } ?_
        try simp only [Act.put, List.setIfInBounds_toArray, List.set_cons_zero, List.set_cons_succ]
        refine tu 4 { dst := some 16, op := .move (.tmp 3), type := 3, pos := "mvcc.go:15", after := #[{ on := 2, ground := .guard }], guard := some (2, true) } ?_
        try simp only [Act.put, List.setIfInBounds_toArray, List.set_cons_zero, List.set_cons_succ]
        refine tu 5 { dst := some 17, op := .binOp .sub 3 (.tmp 16) (.const (.int .i64 1)) 3, type := 3, pos := "mvcc.go:15", after := #[{ on := 4, ground := .data }, { on := 2, ground := .guard }], guard := some (2, true) } ?_
        try simp only [Act.put, List.setIfInBounds_toArray, List.set_cons_zero, List.set_cons_succ]
        refine tu 6 { dst := some 18, op := .indexAddr 31 (.tmp 15) (.tmp 17), type := 0, pos := "mvcc.go:15", after := #[{ on := 3, ground := .data }, { on := 5, ground := .data }, { on := 2, ground := .guard }], guard := some (2, true) } ?_
        try simp only [Act.put, List.setIfInBounds_toArray, List.set_cons_zero, List.set_cons_succ]
        refine tu 7 { dst := some 19, op := .fieldAddr 45 (.tmp 18) 0, type := 0, pos := "mvcc.go:15", after := #[{ on := 6, ground := .data }, { on := 2, ground := .guard }], guard := some (2, true) } ?_
        try simp only [Act.put, List.setIfInBounds_toArray, List.set_cons_zero, List.set_cons_succ]
        refine tu 8 { dst := some 20, op := .load 9 (.tmp 19), type := 9, pos := "mvcc.go:15", after := #[{ on := 7, ground := .data }, { on := 2, ground := .guard }], guard := some (2, true) } ?_
        try simp only [Act.put, List.setIfInBounds_toArray, List.set_cons_zero, List.set_cons_succ]
        refine tu 9 { dst := some 21, op := .fieldAddr 45 (.tmp 4) 0, type := 0, pos := "mvcc.go:15", after := #[{ on := 2, ground := .guard }], guard := some (2, true) } ?_
        try simp only [Act.put, List.setIfInBounds_toArray, List.set_cons_zero, List.set_cons_succ]
        refine tu 10 { dst := some 22, op := .load 9 (.tmp 21), type := 9, pos := "mvcc.go:15", after := #[{ on := 9, ground := .data }, { on := 2, ground := .guard }], guard := some (2, true) } ?_
        try simp only [Act.put, List.setIfInBounds_toArray, List.set_cons_zero, List.set_cons_succ]
        refine tu 11 { dst := some 23, op := .binOp .geq 9 (.tmp 20) (.tmp 22) 9, type := 4, pos := "mvcc.go:15", after := #[{ on := 8, ground := .data }, { on := 10, ground := .data }, { on := 2, ground := .guard }], guard := some (2, true) } ?_
        try simp only [Act.put, List.setIfInBounds_toArray, List.set_cons_zero, List.set_cons_succ]
        refine tk 12 { dst := some 24, op := .pick (.tmp 14) (.tmp 23) (.const (.bool false)), type := 4, pos := "mvcc.go:15", after := #[{ on := 2, ground := .data }, { on := 11, ground := .data }], guard := none } _ ?_
        try simp only [Act.put, List.setIfInBounds_toArray, List.set_cons_zero, List.set_cons_succ]
        refine tk 13 { dst := some 25, op := .move (.tmp 24), type := 4, pos := "mvcc.go:15", after := #[{ on := 12, ground := .data }, { on := 2, ground := .chain }], guard := none } _ ?_
        try simp only [Act.put, List.setIfInBounds_toArray, List.set_cons_zero, List.set_cons_succ]
        refine tk 14 { dst := some 26, op := .load 45 (.tmp 4), type := 45, pos := "mvcc.go:15", after := #[{ on := 13, ground := .guard }], guard := some (13, false) } _ ?_
        try simp only [Act.put, List.setIfInBounds_toArray, List.set_cons_zero, List.set_cons_succ]
        refine wpAnyH_ready (rs := [15]) (by kernel_rfl) (by simp) ?_
        refine AllReadyH.cons (o := { dst := some 27, op := .call { callee := .value (.func 38), args := #[.tmp 26], argTypes := #[45] }, type := 4, pos := "mvcc.go:15", after := #[{ on := 14, ground := .data }, { on := 13, ground := .chain }, { on := 13, ground := .guard }], guard := some (13, false) }) rfl (fun KQ hKQ => ?_) AllReadyH.nil
        go_simp
        refine (MCx.out _ (hBwx.trans (p0.mono hBwx.size))).mono ?_
        rintro e z1 ⟨b, rfl, hb, hZ1⟩
        have p1 := p0.trans (hZ1.mono p0.size)
        have r1 := HS.out _ p1
        go_wp2_with fail
        refine hKQ.out _ _ ?s_15 (fun hHeld15 => ?_)
        case s_15 => exact r1
        clear hKQ KQ
        try simp only [Act.put, List.setIfInBounds_toArray, List.set_cons_zero, List.set_cons_succ]
        refine tk 16 { dst := some 28, op := .unOp .not 4 (.tmp 27), type := 4, pos := "mvcc.go:15", after := #[{ on := 15, ground := .data }, { on := 13, ground := .guard }], guard := some (13, false) } _ ?_
        try simp only [Act.put, List.setIfInBounds_toArray, List.set_cons_zero, List.set_cons_succ]
        refine tk 17 { dst := some 29, op := .pick (.tmp 25) (.const (.bool true)) (.tmp 28), type := 4, pos := "mvcc.go:15", after := #[{ on := 13, ground := .data }, { on := 16, ground := .data }], guard := none } _ ?_
        try simp only [Act.put, List.setIfInBounds_toArray, List.set_cons_zero, List.set_cons_succ]
        refine wpAnyH_done (by kernel_rfl) ?_ _
        have hBf := hBx.trans (p1.mono hBx.size)
        rcases b with _ | _
        · have HN := Lib.hid (HNOT.out (fun h => by have := hb.2 h; cases this))
          clear hb
          go_wp2_with fail
          go_ret
          exact ⟨false, rfl, ⟨(fun h => by cases h), (fun h => absurd h HN.out)⟩, hBf⟩
        · have HT2 := Lib.hid (HMORE.out trivial (hb.1 rfl))
          clear hb
          go_wp2_with fail
          go_roundw
          case rel => exact ⟨0 + 1, by omega, by go_num, HT2, hBf⟩
          case measure => simp [intOf]; omega
      · obtain ⟨b2, o2, z, sz, e2, hb2, hz, _, hAz⟩ := HR.out i (by omega)
        simp only [Option.some.injEq, Addr.mk.injEq, and_true] at e2
        obtain ⟨rfl, rfl⟩ := e2
        have hjn : ((i + 1 : Nat) : Int) - 1 = (i : Int) := by omega
        have hj1 : ((i + 1 : Nat) : Int) > 0 := by omega
        have hjw : IntKind.i64.wrap (i : Int) = (i : Int) := by rw [IntKind.wrap_i64]; omega
        have hjl : (i : Int) < (cs.length : Int) := by omega
        have h1 := text_less z.key x.key
        have HMORE : Hid (sl z.key x.key = true → cellP x → okC (cs.take (i + 1 + 1))) := fun hs h => HSTEP.out.2 ⟨hT.out, (fun z2 _ hz2 => by
          rw [show i + 1 - 1 = i by omega, hz] at hz2
          obtain rfl := Option.some.inj hz2
          exact hs), h⟩
        have HNOT : Hid (¬ cellP x → ¬ okC cs) := fun h hc => h (HSTEP.out.1 (HALL.out hc)).2.2
        have HNOT2 : Hid (sl z.key x.key = false → ¬ okC cs) := fun h hc => by
          have := (HSTEP.out.1 (HALL.out hc)).2.1 z (by omega) (by rw [show i + 1 - 1 = i by omega]; exact hz)
          rw [h] at this; cases this
        have HS : Hid (∀ wq, Below y.heap.size y wq → (wq.cell? ⟨g, 0, none⟩ = some (.string x.key) ∧ wq.cell? ⟨g, 1, none⟩ = some (.slice As x.vers.length cv) ∧ wq.cell? ⟨g, 2, none⟩ = some (.bool x.locked) ∧ wq.cell? ⟨g, 3, none⟩ = some (.int .i64 x.lock.by_.node) ∧ wq.cell? ⟨g, 4, none⟩ = some (.int .i64 x.lock.by_.life) ∧ wq.cell? ⟨g, 5, none⟩ = some (.int .i64 x.lock.by_.seq) ∧ wq.cell? ⟨g, 6, none⟩ = some (.int .i64 x.lock.by_.att) ∧ wq.cell? ⟨g, 7, none⟩ = some (.int .i64 x.lock.home) ∧ wq.cell? ⟨g, 8, none⟩ = some (.int .i64 x.lock.at_.wall) ∧ wq.cell? ⟨g, 9, none⟩ = some (.int .i64 x.lock.at_.tie) ∧ wq.cell? ⟨g, 10, none⟩ = some (.bool x.lock.drop) ∧ wq.cell? ⟨g, 11, none⟩ = some (.string x.lock.data)) ∧ wq.cell? ⟨b1, o1 + i * 12, none⟩ = some (.string z.key)) := fun wq hq => ⟨blk12 (kx.below hq hyl), (hAz.below (show b1 < w.heap.size by omega) (hBx.trans (hq.mono hBx.size))) 0 _ rfl⟩
        clear HSTEP HALL hT hAz hz
        by_cases hs : sl z.key x.key = true
        · rw [hs] at h1
          have HMR := Lib.hid (HMORE.out hs)
          have HMORE : Hid (True → cellP x → okC (cs.take (i + 1 + 1))) := fun _ h => HMR.out h
          clear HMR hs HNOT2
          refine wp_region_held_drew (S := fun wq => (wq.cell? ⟨g, 0, none⟩ = some (.string x.key) ∧ wq.cell? ⟨g, 1, none⟩ = some (.slice As x.vers.length cv) ∧ wq.cell? ⟨g, 2, none⟩ = some (.bool x.locked) ∧ wq.cell? ⟨g, 3, none⟩ = some (.int .i64 x.lock.by_.node) ∧ wq.cell? ⟨g, 4, none⟩ = some (.int .i64 x.lock.by_.life) ∧ wq.cell? ⟨g, 5, none⟩ = some (.int .i64 x.lock.by_.seq) ∧ wq.cell? ⟨g, 6, none⟩ = some (.int .i64 x.lock.by_.att) ∧ wq.cell? ⟨g, 7, none⟩ = some (.int .i64 x.lock.home) ∧ wq.cell? ⟨g, 8, none⟩ = some (.int .i64 x.lock.at_.wall) ∧ wq.cell? ⟨g, 9, none⟩ = some (.int .i64 x.lock.at_.tie) ∧ wq.cell? ⟨g, 10, none⟩ = some (.bool x.lock.drop) ∧ wq.cell? ⟨g, 11, none⟩ = some (.string x.lock.data)) ∧ wq.cell? ⟨b1, o1 + i * 12, none⟩ = some (.string z.key)) (by kernel_rfl) ?s_lmay1 (fun hHeld => ?_)
          case s_lmay1 => exact HS.out _ p0
          refine tk 0 { dst := some 12, op := .move (.tmp 3), type := 3, pos := "mvcc.go:15", after := #[], guard := none } _ ?_
          try simp only [Act.put, List.setIfInBounds_toArray, List.set_cons_zero, List.set_cons_succ]
          refine tk 1 { dst := some 13, op := .binOp .gtr 3 (.tmp 12) (.const (.int .i64 0)) 3, type := 4, pos := "mvcc.go:15", after := #[{ on := 0, ground := .data }], guard := none } _ ?_
          try simp only [Act.put, List.setIfInBounds_toArray, List.set_cons_zero, List.set_cons_succ]
          refine tk 2 { dst := some 14, op := .move (.tmp 13), type := 4, pos := "mvcc.go:15", after := #[{ on := 1, ground := .data }], guard := none } _ ?_
          try simp only [Act.put, List.setIfInBounds_toArray, List.set_cons_zero, List.set_cons_succ]
          refine tk 3 { dst := some 15, op := .move (.tmp 0), type := 31, pos := "mvcc.go:15", after := #[{ on := 2, ground := .guard }], guard := some (2, true) } _ ?_
          try simp only [Act.put, List.setIfInBounds_toArray, List.set_cons_zero, List.set_cons_succ]
          refine tk 4 { dst := some 16, op := .move (.tmp 3), type := 3, pos := "mvcc.go:15", after := #[{ on := 2, ground := .guard }], guard := some (2, true) } _ ?_
          try simp only [Act.put, List.setIfInBounds_toArray, List.set_cons_zero, List.set_cons_succ]
          refine tk 5 { dst := some 17, op := .binOp .sub 3 (.tmp 16) (.const (.int .i64 1)) 3, type := 3, pos := "mvcc.go:15", after := #[{ on := 4, ground := .data }, { on := 2, ground := .guard }], guard := some (2, true) } _ ?_
          try simp only [Act.put, List.setIfInBounds_toArray, List.set_cons_zero, List.set_cons_succ]
          refine tk 6 { dst := some 18, op := .indexAddr 31 (.tmp 15) (.tmp 17), type := 0, pos := "mvcc.go:15", after := #[{ on := 3, ground := .data }, { on := 5, ground := .data }, { on := 2, ground := .guard }], guard := some (2, true) } _ ?_
          try simp only [Act.put, List.setIfInBounds_toArray, List.set_cons_zero, List.set_cons_succ]
          refine tk 7 { dst := some 19, op := .fieldAddr 45 (.tmp 18) 0, type := 0, pos := "mvcc.go:15", after := #[{ on := 6, ground := .data }, { on := 2, ground := .guard }], guard := some (2, true) } _ ?_
          try simp only [Act.put, List.setIfInBounds_toArray, List.set_cons_zero, List.set_cons_succ]
          refine tk 8 { dst := some 20, op := .load 9 (.tmp 19), type := 9, pos := "mvcc.go:15", after := #[{ on := 7, ground := .data }, { on := 2, ground := .guard }], guard := some (2, true) } _ ?_
          try simp only [Act.put, List.setIfInBounds_toArray, List.set_cons_zero, List.set_cons_succ]
          refine tk 9 { dst := some 21, op := .fieldAddr 45 (.tmp 4) 0, type := 0, pos := "mvcc.go:15", after := #[{ on := 2, ground := .guard }], guard := some (2, true) } _ ?_
          try simp only [Act.put, List.setIfInBounds_toArray, List.set_cons_zero, List.set_cons_succ]
          refine tk 10 { dst := some 22, op := .load 9 (.tmp 21), type := 9, pos := "mvcc.go:15", after := #[{ on := 9, ground := .data }, { on := 2, ground := .guard }], guard := some (2, true) } _ ?_
          try simp only [Act.put, List.setIfInBounds_toArray, List.set_cons_zero, List.set_cons_succ]
          refine tk 11 { dst := some 23, op := .binOp .geq 9 (.tmp 20) (.tmp 22) 9, type := 4, pos := "mvcc.go:15", after := #[{ on := 8, ground := .data }, { on := 10, ground := .data }, { on := 2, ground := .guard }], guard := some (2, true) } _ ?_
          try simp only [Act.put, List.setIfInBounds_toArray, List.set_cons_zero, List.set_cons_succ]
          refine tk 12 { dst := some 24, op := .pick (.tmp 14) (.tmp 23) (.const (.bool false)), type := 4, pos := "mvcc.go:15", after := #[{ on := 2, ground := .data }, { on := 11, ground := .data }], guard := none } _ ?_
          try simp only [Act.put, List.setIfInBounds_toArray, List.set_cons_zero, List.set_cons_succ]
          refine tk 13 { dst := some 25, op := .move (.tmp 24), type := 4, pos := "mvcc.go:15", after := #[{ on := 12, ground := .data }, { on := 2, ground := .chain }], guard := none } _ ?_
          try simp only [Act.put, List.setIfInBounds_toArray, List.set_cons_zero, List.set_cons_succ]
          refine tk 14 { dst := some 26, op := .load 45 (.tmp 4), type := 45, pos := "mvcc.go:15", after := #[{ on := 13, ground := .guard }], guard := some (13, false) } _ ?_
          try simp only [Act.put, List.setIfInBounds_toArray, List.set_cons_zero, List.set_cons_succ]
          refine wpAnyH_ready (rs := [15]) (by kernel_rfl) (by simp) ?_
          refine AllReadyH.cons (o := { dst := some 27, op := .call { callee := .value (.func 38), args := #[.tmp 26], argTypes := #[45] }, type := 4, pos := "mvcc.go:15", after := #[{ on := 14, ground := .data }, { on := 13, ground := .chain }, { on := 13, ground := .guard }], guard := some (13, false) }) rfl (fun KQ hKQ => ?_) AllReadyH.nil
          go_simp
          refine (MCx.out _ (hBwx.trans (p0.mono hBwx.size))).mono ?_
          rintro e z1 ⟨b, rfl, hb, hZ1⟩
          have p1 := p0.trans (hZ1.mono p0.size)
          have r1 := HS.out _ p1
          go_wp2_with fail
          refine hKQ.out _ _ ?s_15 (fun hHeld15 => ?_)
          case s_15 => exact r1
          clear hKQ KQ
          try simp only [Act.put, List.setIfInBounds_toArray, List.set_cons_zero, List.set_cons_succ]
          refine tk 16 { dst := some 28, op := .unOp .not 4 (.tmp 27), type := 4, pos := "mvcc.go:15", after := #[{ on := 15, ground := .data }, { on := 13, ground := .guard }], guard := some (13, false) } _ ?_
          try simp only [Act.put, List.setIfInBounds_toArray, List.set_cons_zero, List.set_cons_succ]
          refine tk 17 { dst := some 29, op := .pick (.tmp 25) (.const (.bool true)) (.tmp 28), type := 4, pos := "mvcc.go:15", after := #[{ on := 13, ground := .data }, { on := 16, ground := .data }], guard := none } _ ?_
          try simp only [Act.put, List.setIfInBounds_toArray, List.set_cons_zero, List.set_cons_succ]
          refine wpAnyH_done (by kernel_rfl) ?_ _
          have hBf := hBx.trans (p1.mono hBx.size)
          rcases b with _ | _
          · have HN := Lib.hid (HNOT.out (fun h => by have := hb.2 h; cases this))
            clear hb
            go_wp2_with fail
            go_ret
            exact ⟨false, rfl, ⟨(fun h => by cases h), (fun h => absurd h HN.out)⟩, hBf⟩
          · have HT2 := Lib.hid (HMORE.out trivial (hb.1 rfl))
            clear hb
            go_wp2_with fail
            go_roundw
            case rel => exact ⟨(i + 1) + 1, by omega, by go_num, HT2, hBf⟩
            case measure => simp [intOf]; omega
        · have hs' : sl z.key x.key = false := by simpa using hs
          rw [hs'] at h1
          have HN := Lib.hid (HNOT2.out hs')
          clear HMORE hs hs' HNOT2
          refine wp_region_held_drew (S := fun wq => (wq.cell? ⟨g, 0, none⟩ = some (.string x.key) ∧ wq.cell? ⟨g, 1, none⟩ = some (.slice As x.vers.length cv) ∧ wq.cell? ⟨g, 2, none⟩ = some (.bool x.locked) ∧ wq.cell? ⟨g, 3, none⟩ = some (.int .i64 x.lock.by_.node) ∧ wq.cell? ⟨g, 4, none⟩ = some (.int .i64 x.lock.by_.life) ∧ wq.cell? ⟨g, 5, none⟩ = some (.int .i64 x.lock.by_.seq) ∧ wq.cell? ⟨g, 6, none⟩ = some (.int .i64 x.lock.by_.att) ∧ wq.cell? ⟨g, 7, none⟩ = some (.int .i64 x.lock.home) ∧ wq.cell? ⟨g, 8, none⟩ = some (.int .i64 x.lock.at_.wall) ∧ wq.cell? ⟨g, 9, none⟩ = some (.int .i64 x.lock.at_.tie) ∧ wq.cell? ⟨g, 10, none⟩ = some (.bool x.lock.drop) ∧ wq.cell? ⟨g, 11, none⟩ = some (.string x.lock.data)) ∧ wq.cell? ⟨b1, o1 + i * 12, none⟩ = some (.string z.key)) (by kernel_rfl) ?s_lmay2 (fun hHeld => ?_)
          case s_lmay2 => exact HS.out _ p0
          refine tk 0 { dst := some 12, op := .move (.tmp 3), type := 3, pos := "mvcc.go:15", after := #[], guard := none } _ ?_
          try simp only [Act.put, List.setIfInBounds_toArray, List.set_cons_zero, List.set_cons_succ]
          refine tk 1 { dst := some 13, op := .binOp .gtr 3 (.tmp 12) (.const (.int .i64 0)) 3, type := 4, pos := "mvcc.go:15", after := #[{ on := 0, ground := .data }], guard := none } _ ?_
          try simp only [Act.put, List.setIfInBounds_toArray, List.set_cons_zero, List.set_cons_succ]
          refine tk 2 { dst := some 14, op := .move (.tmp 13), type := 4, pos := "mvcc.go:15", after := #[{ on := 1, ground := .data }], guard := none } _ ?_
          try simp only [Act.put, List.setIfInBounds_toArray, List.set_cons_zero, List.set_cons_succ]
          refine tk 3 { dst := some 15, op := .move (.tmp 0), type := 31, pos := "mvcc.go:15", after := #[{ on := 2, ground := .guard }], guard := some (2, true) } _ ?_
          try simp only [Act.put, List.setIfInBounds_toArray, List.set_cons_zero, List.set_cons_succ]
          refine tk 4 { dst := some 16, op := .move (.tmp 3), type := 3, pos := "mvcc.go:15", after := #[{ on := 2, ground := .guard }], guard := some (2, true) } _ ?_
          try simp only [Act.put, List.setIfInBounds_toArray, List.set_cons_zero, List.set_cons_succ]
          refine tk 5 { dst := some 17, op := .binOp .sub 3 (.tmp 16) (.const (.int .i64 1)) 3, type := 3, pos := "mvcc.go:15", after := #[{ on := 4, ground := .data }, { on := 2, ground := .guard }], guard := some (2, true) } _ ?_
          try simp only [Act.put, List.setIfInBounds_toArray, List.set_cons_zero, List.set_cons_succ]
          refine tk 6 { dst := some 18, op := .indexAddr 31 (.tmp 15) (.tmp 17), type := 0, pos := "mvcc.go:15", after := #[{ on := 3, ground := .data }, { on := 5, ground := .data }, { on := 2, ground := .guard }], guard := some (2, true) } _ ?_
          try simp only [Act.put, List.setIfInBounds_toArray, List.set_cons_zero, List.set_cons_succ]
          refine tk 7 { dst := some 19, op := .fieldAddr 45 (.tmp 18) 0, type := 0, pos := "mvcc.go:15", after := #[{ on := 6, ground := .data }, { on := 2, ground := .guard }], guard := some (2, true) } _ ?_
          try simp only [Act.put, List.setIfInBounds_toArray, List.set_cons_zero, List.set_cons_succ]
          refine tk 8 { dst := some 20, op := .load 9 (.tmp 19), type := 9, pos := "mvcc.go:15", after := #[{ on := 7, ground := .data }, { on := 2, ground := .guard }], guard := some (2, true) } _ ?_
          try simp only [Act.put, List.setIfInBounds_toArray, List.set_cons_zero, List.set_cons_succ]
          refine tk 9 { dst := some 21, op := .fieldAddr 45 (.tmp 4) 0, type := 0, pos := "mvcc.go:15", after := #[{ on := 2, ground := .guard }], guard := some (2, true) } _ ?_
          try simp only [Act.put, List.setIfInBounds_toArray, List.set_cons_zero, List.set_cons_succ]
          refine tk 10 { dst := some 22, op := .load 9 (.tmp 21), type := 9, pos := "mvcc.go:15", after := #[{ on := 9, ground := .data }, { on := 2, ground := .guard }], guard := some (2, true) } _ ?_
          try simp only [Act.put, List.setIfInBounds_toArray, List.set_cons_zero, List.set_cons_succ]
          refine tk 11 { dst := some 23, op := .binOp .geq 9 (.tmp 20) (.tmp 22) 9, type := 4, pos := "mvcc.go:15", after := #[{ on := 8, ground := .data }, { on := 10, ground := .data }, { on := 2, ground := .guard }], guard := some (2, true) } _ ?_
          try simp only [Act.put, List.setIfInBounds_toArray, List.set_cons_zero, List.set_cons_succ]
          refine tk 12 { dst := some 24, op := .pick (.tmp 14) (.tmp 23) (.const (.bool false)), type := 4, pos := "mvcc.go:15", after := #[{ on := 2, ground := .data }, { on := 11, ground := .data }], guard := none } _ ?_
          try simp only [Act.put, List.setIfInBounds_toArray, List.set_cons_zero, List.set_cons_succ]
          refine tk 13 { dst := some 25, op := .move (.tmp 24), type := 4, pos := "mvcc.go:15", after := #[{ on := 12, ground := .data }, { on := 2, ground := .chain }], guard := none } _ ?_
          try simp only [Act.put, List.setIfInBounds_toArray, List.set_cons_zero, List.set_cons_succ]
          refine tu 14 { dst := some 26, op := .load 45 (.tmp 4), type := 45, pos := "mvcc.go:15", after := #[{ on := 13, ground := .guard }], guard := some (13, false) } ?_
          try simp only [Act.put, List.setIfInBounds_toArray, List.set_cons_zero, List.set_cons_succ]
          refine tu 15 { dst := some 27, op := .call { callee := .value (.func 38), args := #[.tmp 26], argTypes := #[45] }, type := 4, pos := "mvcc.go:15", after := #[{ on := 14, ground := .data }, { on := 13, ground := .chain }, { on := 13, ground := .guard }], guard := some (13, false) } ?_
          try simp only [Act.put, List.setIfInBounds_toArray, List.set_cons_zero, List.set_cons_succ]
          refine tu 16 { dst := some 28, op := .unOp .not 4 (.tmp 27), type := 4, pos := "mvcc.go:15", after := #[{ on := 15, ground := .data }, { on := 13, ground := .guard }], guard := some (13, false) } ?_
          try simp only [Act.put, List.setIfInBounds_toArray, List.set_cons_zero, List.set_cons_succ]
          refine tk 17 { dst := some 29, op := .pick (.tmp 25) (.const (.bool true)) (.tmp 28), type := 4, pos := "mvcc.go:15", after := #[{ on := 13, ground := .data }, { on := 16, ground := .data }], guard := none } _ ?_
          try simp only [Act.put, List.setIfInBounds_toArray, List.set_cons_zero, List.set_cons_succ]
          refine wpAnyH_done (by kernel_rfl) ?_ _
          go_wp2_with fail
          go_ret
          exact ⟨false, rfl, ⟨(fun h => by cases h), (fun h => absurd h HN.out)⟩, hBx.trans (p0.mono hBx.size)⟩
    · obtain rfl : j = cs.length := by omega
      have hOK := hT.out
      rw [List.take_length] at hOK
      have HOK := Lib.hid hOK
      clear hOK hT
      go_wp2_with fail
      go_ret
      exact ⟨true, rfl, ⟨fun _ => HOK.out, fun _ => rfl⟩, hBr⟩
end Go.Proofs.Ytlkhmpfdajefiaa.mvi
