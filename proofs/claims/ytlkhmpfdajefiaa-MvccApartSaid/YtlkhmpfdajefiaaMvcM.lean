/- What the program's May (mvcc) comes to. Conditions: few cells, few versions. -/
import Derived.Test.YtlkhmpfdajefiaaMvcB
import Derived.Test.YtlkhmpfdajefiaaRef8k
namespace Go.Proofs.Ytlkhmpfdajefiaa.mvi
open Go Go.RowKit Go.Proofs.Ytlkhmpfdajefiaa.kit Go.Proofs.Ytlkhmpfdajefiaa.nums Go.Proofs.Ytlkhmpfdajefiaa.st Go.Proofs.Ytlkhmpfdajefiaa.mv Go.Proofs.Ytlkhmpfdajefiaa.ref8
set_option linter.unusedVariables false

set_option maxRecDepth 100000 in
set_option maxHeartbeats 4000000 in
theorem mayCell_any (x : CellL) (sv : Value) (w : World) (B : Nat) (hS : SlVs w B sv x.vers) (hB : B ≤ w.heap.size) (hv : x.vers.length ≤ 1000) :
    Calls Try.prog 38 #[.agg (cellC x sv).toArray] w (RetB w (cellP x)) := by
  obtain ⟨As, cv, rfl, hc1, _, hRv⟩ := hS
  have LS := Lib.hid (fun (a b : StL) w => less_any a b w)
  have NL := Lib.hid (fun w => ne_lk x.lock zeroL w)
  have NT := Lib.hid no_text
  obtain ⟨xk, xv, xl, lx⟩ := x
  unfold lockC zeroL noText at NL
  unfold cellC
  dsimp only at NL hc1 hRv hv ⊢
  have HNO : Hid (¬ verP xv ∨ ¬ (xl = false → lx = zeroL) ∨ ¬ (xv = [] → xl = true) ∨ ¬ (lx.drop = true → lx.data = noText) → ¬ cellP ⟨xk, xv, xl, lx⟩) := fun h hc => by
    obtain ⟨q1, q2, q3, q4⟩ := hc
    rcases h with h | h | h | h
    · exact h q1
    · exact h q2
    · exact h q3
    · exact h q4
  have hBx : Hid (Below w.heap.size w (w.alloc (.cells #[.string xk, .slice As xv.length cv, .bool xl, .int .i64 lx.by_.node, .int .i64 lx.by_.life, .int .i64 lx.by_.seq, .int .i64 lx.by_.att, .int .i64 lx.home, .int .i64 lx.at_.wall, .int .i64 lx.at_.tie, .bool lx.drop, .string lx.data] 45))) := (Below.refl _ _).alloc (Nat.le_refl _) _
  have kx : Hid (Blk 45 (w.alloc (.cells #[.string xk, .slice As xv.length cv, .bool xl, .int .i64 lx.by_.node, .int .i64 lx.by_.life, .int .i64 lx.by_.seq, .int .i64 lx.by_.att, .int .i64 lx.home, .int .i64 lx.at_.wall, .int .i64 lx.at_.tie, .bool lx.drop, .string lx.data] 45)) w.heap.size [.string xk, .slice As xv.length cv, .bool xl, .int .i64 lx.by_.node, .int .i64 lx.by_.life, .int .i64 lx.by_.seq, .int .i64 lx.by_.att, .int .i64 lx.home, .int .i64 lx.at_.wall, .int .i64 lx.at_.tie, .bool lx.drop, .string lx.data]) := heap_alloc_new w _
  have HRV := Lib.hid (fun k (hk : k < xv.length) => hRv.at_ hk)
  clear hRv
  go_enter Try.func38, Try.ntmps38
  go_upto_region 1 with (fail)
  obtain ⟨g, hg⟩ : ∃ g, w.heap.size = g := ⟨_, rfl⟩
  rw [hg] at kx ⊢
  generalize (w.alloc (.cells #[.string xk, .slice As xv.length cv, .bool xl, .int .i64 lx.by_.node, .int .i64 lx.by_.life, .int .i64 lx.by_.seq, .int .i64 lx.by_.att, .int .i64 lx.home, .int .i64 lx.at_.wall, .int .i64 lx.at_.tie, .bool lx.drop, .string lx.data] 45)) = y at *
  have hyl := kx.out.lt
  obtain ⟨e0, e1, e2, e3, e4, e5, e6, e7, e8, e9, e10, e11⟩ := blk12 kx.out
  have nl := NL.out
  have HLX : Hid (decide (lx = (⟨⟨0, 0, 0, 0⟩, 0, ⟨0, 0⟩, false, ⟨#[]⟩⟩ : LockL)) = true → lx = zeroL) := fun h => of_decide_eq_true h
  have HLY : Hid (decide (lx = (⟨⟨0, 0, 0, 0⟩, 0, ⟨0, 0⟩, false, ⟨#[]⟩⟩ : LockL)) = false → ¬ lx = zeroL) := fun h => of_decide_eq_false h
  generalize decide (lx = (⟨⟨0, 0, 0, 0⟩, 0, ⟨0, 0⟩, false, ⟨#[]⟩⟩ : LockL)) = dz at *
  go_cut [19] from 200 (fun bv wx => ∃ bb : Bool, bv = .bool bb ∧ Hid (∃ q, wx = y.drewN q) ∧ Hid (bb = true → ¬ cellP ⟨xk, xv, xl, lx⟩) ∧ Hid (bb = false → (xl = false → lx = zeroL) ∧ (xv = [] → xl = true)))
  case first =>
    rcases xl with _ | _
    · rcases dz with _ | _
      · have HN := Lib.hid (HNO.out (.inr (.inl (fun h => HLY.out rfl (h rfl)))))
        clear HLX HLY
        go_wp2_with fail
        go_meet
        case rel => exact ⟨true, rfl, ⟨0, rfl⟩, (fun _ => HN.out), (fun h => by cases h)⟩
      · by_cases h0 : xv.length = 0
        · have HN := Lib.hid (HNO.out (.inr (.inr (.inl (fun h => by cases h (List.length_eq_zero_iff.1 h0))))))
          have h0' : ((xv.length : Int) == 0) = true := by simp [h0]
          clear HLX HLY
          generalize xv.length = xn at *
          clear h0
          go_wp2_with fail
          go_meet
          case rel => exact ⟨true, rfl, ⟨0, rfl⟩, (fun _ => HN.out), (fun h => by cases h)⟩
        · have HP : Hid ((false = false → lx = zeroL) ∧ (xv = [] → false = true)) := ⟨fun _ => HLX.out rfl, fun h => absurd (by rw [h]; rfl) h0⟩
          have h0' : ((xv.length : Int) == 0) = false := by simpa using h0
          clear HLX HLY
          go_wp2_with fail
          go_meet
          case rel => exact ⟨false, rfl, ⟨0, rfl⟩, (fun h => by cases h), (fun _ => HP.out)⟩
    · have HP : Hid ((true = false → lx = zeroL) ∧ (xv = [] → true = true)) := ⟨(fun h => by cases h), fun _ => rfl⟩
      clear HLX HLY
      go_wp2_with fail
      go_meet
      case rel => exact ⟨false, rfl, ⟨0, rfl⟩, (fun h => by cases h), (fun _ => HP.out)⟩
  case rest =>
    obtain ⟨bb, rfl, ⟨qn, rfl⟩, R1, R2⟩ := hcut
    have hBc := below_drewN (Below.refl y.heap.size y) qn
    rcases bb with _ | _
    · have HP1 := Lib.hid (R2.out rfl)
      clear R1 R2 HLX HLY nl
      have kc := kx.out.below hBc hyl
      clear e0 e1 e2 e3 e4 e5 e6 e7 e8 e9 e10 e11
      generalize y.drewN qn = wc at *
      obtain ⟨e0, e1, e2, e3, e4, e5, e6, e7, e8, e9, e10, e11⟩ := blk12 kc
      go_upto_region 3 with (fail)
      go_cut [28] from 200 (fun bv wx => ∃ bb : Bool, bv = .bool bb ∧ Hid (∃ q, wx = wc.drewN q) ∧ Hid (bb = true → ¬ cellP ⟨xk, xv, xl, lx⟩) ∧ Hid (bb = false → lx.drop = true → lx.data = noText))
      case first =>
        generalize hdr : lx.drop = ldr at *
        rcases ldr with _ | _
        · go_wp2_with fail
          go_meet
          case rel => exact ⟨false, rfl, ⟨0, rfl⟩, (fun h => by cases h), (fun _ h => by cases h)⟩
        · by_cases h0 : lx.data = noText
          · have hte : lx.data.toList.isEmpty = true := by rw [no_text, decide_eq_true h0]
            have HP := Lib.hid h0
            clear h0
            go_wp2_with fail
            go_meet
            case rel => exact ⟨false, rfl, ⟨0, rfl⟩, (fun h => by cases h), (fun _ _ => HP.out)⟩
          · have hte : lx.data.toList.isEmpty = false := by rw [no_text, decide_eq_false h0]
            have HN := Lib.hid (HNO.out (.inr (.inr (.inr (fun h => h0 (h rfl))))))
            clear h0
            go_wp2_with fail
            go_meet
            case rel => exact ⟨true, rfl, ⟨0, rfl⟩, (fun _ => HN.out), (fun h => by cases h)⟩
      case rest =>
        obtain ⟨bb, rfl, ⟨qm, rfl⟩, R1, R2⟩ := hcut
        have hBm := below_drewN (Below.refl wc.heap.size wc) qm
        have hBd := hBc.trans (hBm.mono hBc.size)
        have kd := kc.below hBm kc.lt
        rcases bb with _ | _
        · have HP2 := Lib.hid (R2.out rfl)
          clear R1 R2 e0 e1 e2 e3 e4 e5 e6 e7 e8 e9 e10 e11 hBm
          generalize wc.drewN qm = wd at *
          obtain ⟨e0, e1, e2, e3, e4, e5, e6, e7, e8, e9, e10, e11⟩ := blk12 kd
          have hBwd := hBx.out.trans (hBd.mono hBx.out.size)
          go_wp2_with fail
          clear e0 e1 e2 e3 e4 e5 e6 e7 e8 e9 e10 e11
          have HFIN : Hid (verP xv → cellP ⟨xk, xv, xl, lx⟩) := fun h => ⟨h, HP1.out.1, HP1.out.2, HP2.out⟩
          have HBAD : Hid (¬ verP xv → ¬ cellP ⟨xk, xv, xl, lx⟩) := fun h => HNO.out (.inl h)
          clear HP1 HP2 HNO NL
          go_loopw [32] (fun kv wz => ∃ k : Nat, k ≤ xv.length ∧ kv = .int .i64 k ∧ Hid (verP (xv.take k)) ∧ Below wd.heap.size wd wz) (fun kv _ => xv.length - (intOf kv).toNat)
          case atStart => exact ⟨0, Nat.zero_le _, rfl, ver_none, Below.refl _ _⟩
          case round =>
            obtain ⟨k, hk, rfl, hTk, hBz⟩ := hrel
            have hBwz := hBwd.trans (hBz.mono hBwd.size)
            by_cases hkk : k < xv.length
            · obtain ⟨p1, q1, u, rfl, hp1, hu, hAu⟩ := HRV.out k hkk
              obtain ⟨u0, u1, u2, u3⟩ := at4 (hAu.below (show p1 < w.heap.size by omega) hBwz)
              have HVM := Lib.hid (fun hq => ver_more hu hTk.out hq)
              have HVN := Lib.hid (fun h => ver_not hu h)
              have ku : Blk 47 (wr.alloc (.cells #[.int .i64 u.at_.wall, .int .i64 u.at_.tie, .bool u.drop, .string u.data] 47)) wr.heap.size [.int .i64 u.at_.wall, .int .i64 u.at_.tie, .bool u.drop, .string u.data] := heap_alloc_new wr _
              have hBu := hBz.alloc hBz.size (.cells #[.int .i64 u.at_.wall, .int .i64 u.at_.tie, .bool u.drop, .string u.data] 47)
              clear hu hAu hTk
              go_upto_region 8 with (fail)
              clear u0 u1 u2 u3
              obtain ⟨gu, hgu⟩ : ∃ gu, wr.heap.size = gu := ⟨_, rfl⟩
              rw [hgu] at ku ⊢
              generalize (wr.alloc (.cells #[.int .i64 u.at_.wall, .int .i64 u.at_.tie, .bool u.drop, .string u.data] 47)) = yu at *
              have hBwu := hBwd.trans (hBu.mono hBwd.size)
              have p0 : Below yu.heap.size yu yu.drew := (Below.refl _ _).drew
              have hul := ku.lt
              go_cut [60] from 200 (fun bv wx => ∃ bb : Bool, bv = .bool bb ∧ Hid (Below yu.heap.size yu wx) ∧ Hid (bb = true → ¬ verQ xv k u) ∧ Hid (bb = false → verQ xv k u))
              case first =>
                rcases k with _ | j
                · have HGOODQ : Hid ((u.drop = true → u.data = noText) → verQ xv 0 u) := fun h => ⟨fun z h0 => absurd h0 (by omega), h⟩
                  have HS : Hid (∀ wq, Below yu.heap.size yu wq → (wq.cell? ⟨gu, 0, none⟩ = some (.int .i64 u.at_.wall) ∧ wq.cell? ⟨gu, 1, none⟩ = some (.int .i64 u.at_.tie) ∧ wq.cell? ⟨gu, 2, none⟩ = some (.bool u.drop) ∧ wq.cell? ⟨gu, 3, none⟩ = some (.string u.data))) := fun wq hq => by
                    exact blk4 (ku.below hq hul)
                  generalize hdr : u.drop = udr at *
                  rcases udr with _ | _
                  · have HQ := Lib.hid (HGOODQ.out (fun h => by cases h))
                    refine wp_region_held_drew (S := fun wq => (wq.cell? ⟨gu, 0, none⟩ = some (.int .i64 u.at_.wall) ∧ wq.cell? ⟨gu, 1, none⟩ = some (.int .i64 u.at_.tie) ∧ wq.cell? ⟨gu, 2, none⟩ = some (.bool false) ∧ wq.cell? ⟨gu, 3, none⟩ = some (.string u.data))) (by kernel_rfl) ?s_lm_n0 (fun hHeld => ?_)
                    case s_lm_n0 => exact HS.out _ p0
                    refine tk 0 { dst := some 37, op := .move (.tmp 3), type := 3, pos := "mvcc.go:136", after := #[], guard := none } _ ?_
                    try simp only [Act.put, List.setIfInBounds_toArray, List.set_cons_zero, List.set_cons_succ]
                    refine tk 1 { dst := some 38, op := .binOp .gtr 3 (.tmp 37) (.const (.int .i64 0)) 3, type := 4, pos := "mvcc.go:136", after := #[{ on := 0, ground := .data }], guard := none } _ ?_
                    try simp only [Act.put, List.setIfInBounds_toArray, List.set_cons_zero, List.set_cons_succ]
                    refine tk 2 { dst := some 39, op := .move (.tmp 38), type := 4, pos := "mvcc.go:136", after := #[{ on := 1, ground := .data }], guard := none } _ ?_
                    try simp only [Act.put, List.setIfInBounds_toArray, List.set_cons_zero, List.set_cons_succ]
                    refine tu 3 { dst := some 40, op := .fieldAddr 45 (.tmp 1) 1, type := 0, pos := "mvcc.go:136", after := #[{ on := 2, ground := .guard }], guard := some (2, true) } ?_
                    try simp only [Act.put, List.setIfInBounds_toArray, List.set_cons_zero, List.set_cons_succ]
                    refine tu 4 { dst := some 41, op := .load 43 (.tmp 40), type := 43, pos := "mvcc.go:136", after := #[{ on := 3, ground := .data }, { on := 2, ground := .guard }], guard := some (2, true) } ?_
                    try simp only [Act.put, List.setIfInBounds_toArray, List.set_cons_zero, List.set_cons_succ]
                    refine tu 5 { dst := some 42, op := .move (.tmp 3), type := 3, pos := "mvcc.go:136", after := #[{ on := 2, ground := .guard }], guard := some (2, true) } ?_
                    try simp only [Act.put, List.setIfInBounds_toArray, List.set_cons_zero, List.set_cons_succ]
                    refine tu 6 { dst := some 43, op := .binOp .sub 3 (.tmp 42) (.const (.int .i64 1)) 3, type := 3, pos := "mvcc.go:136", after := #[{ on := 5, ground := .data }, { on := 2, ground := .guard }], guard := some (2, true) } ?_
                    try simp only [Act.put, List.setIfInBounds_toArray, List.set_cons_zero, List.set_cons_succ]
                    refine tu 7 { dst := some 44, op := .indexAddr 43 (.tmp 41) (.tmp 43), type := 0, pos := "mvcc.go:136", after := #[{ on := 4, ground := .data }, { on := 6, ground := .data }, { on := 2, ground := .guard }], guard := some (2, true) } ?_
                    try simp only [Act.put, List.setIfInBounds_toArray, List.set_cons_zero, List.set_cons_succ]
                    refine tu 8 { dst := some 45, op := .fieldAddr 47 (.tmp 44) 0, type := 0, pos := "mvcc.go:136", after := #[{ on := 7, ground := .data }, { on := 2, ground := .guard }], guard := some (2, true) } ?_
                    try simp only [Act.put, List.setIfInBounds_toArray, List.set_cons_zero, List.set_cons_succ]
                    refine tu 9 { dst := some 46, op := .load 24 (.tmp 45), type := 24, pos := "mvcc.go:136", after := #[{ on := 8, ground := .data }, { on := 2, ground := .guard }], guard := some (2, true) } ?_
                    try simp only [Act.put, List.setIfInBounds_toArray, List.set_cons_zero, List.set_cons_succ]
                    refine tu 10 { dst := some 47, op := .fieldAddr 47 (.tmp 4) 0, type := 0, pos := "mvcc.go:136", after := #[{ on := 2, ground := .guard }], guard := some (2, true) } ?_
                    try simp only [Act.put, List.setIfInBounds_toArray, List.set_cons_zero, List.set_cons_succ]
                    refine tu 11 { dst := some 48, op := .load 24 (.tmp 47), type := 24, pos := "mvcc.go:136", after := #[{ on := 10, ground := .data }, { on := 2, ground := .guard }], guard := some (2, true) } ?_
                    try simp only [Act.put, List.setIfInBounds_toArray, List.set_cons_zero, List.set_cons_succ]
                    refine tu 12 { dst := some 49, op := .call { callee := .value (.func 52), args := #[.tmp 46, .tmp 48], argTypes := #[24, 24] }, type := 4, pos := "mvcc.go:136", after := #[{ on := 9, ground := .data }, { on := 11, ground := .data }, { on := 2, ground := .chain }, { on := 2, ground := .guard }], guard := some (2, true) } ?_
                    try simp only [Act.put, List.setIfInBounds_toArray, List.set_cons_zero, List.set_cons_succ]
                    refine tu 13 { dst := some 50, op := .unOp .not 4 (.tmp 49), type := 4, pos := "mvcc.go:136", after := #[{ on := 12, ground := .data }, { on := 2, ground := .guard }], guard := some (2, true) } ?_
                    try simp only [Act.put, List.setIfInBounds_toArray, List.set_cons_zero, List.set_cons_succ]
                    refine tk 14 { dst := some 51, op := .pick (.tmp 39) (.tmp 50) (.const (.bool false)), type := 4, pos := "mvcc.go:136", after := #[{ on := 2, ground := .data }, { on := 13, ground := .data }], guard := none } _ ?_
                    try simp only [Act.put, List.setIfInBounds_toArray, List.set_cons_zero, List.set_cons_succ]
                    refine tk 15 { dst := some 52, op := .move (.tmp 51), type := 4, pos := "mvcc.go:136", after := #[{ on := 14, ground := .data }, { on := 12, ground := .chain }], guard := none } _ ?_
                    try simp only [Act.put, List.setIfInBounds_toArray, List.set_cons_zero, List.set_cons_succ]
                    refine tk 16 { dst := some 53, op := .fieldAddr 47 (.tmp 4) 1, type := 0, pos := "mvcc.go:136", after := #[{ on := 15, ground := .guard }], guard := some (15, false) } _ ?_
                    try simp only [Act.put, List.setIfInBounds_toArray, List.set_cons_zero, List.set_cons_succ]
                    refine tk 17 { dst := some 54, op := .load 4 (.tmp 53), type := 4, pos := "mvcc.go:136", after := #[{ on := 16, ground := .data }, { on := 15, ground := .guard }], guard := some (15, false) } _ ?_
                    try simp only [Act.put, List.setIfInBounds_toArray, List.set_cons_zero, List.set_cons_succ]
                    refine tk 18 { dst := some 55, op := .move (.tmp 54), type := 4, pos := "mvcc.go:136", after := #[{ on := 17, ground := .data }, { on := 15, ground := .chain }, { on := 15, ground := .guard }], guard := some (15, false) } _ ?_
                    try simp only [Act.put, List.setIfInBounds_toArray, List.set_cons_zero, List.set_cons_succ]
                    refine tu 19 { dst := some 56, op := .fieldAddr 47 (.tmp 4) 2, type := 0, pos := "mvcc.go:136", after := #[{ on := 18, ground := .guard }], guard := some (18, true) } ?_
                    try simp only [Act.put, List.setIfInBounds_toArray, List.set_cons_zero, List.set_cons_succ]
                    refine tu 20 { dst := some 57, op := .load 9 (.tmp 56), type := 9, pos := "mvcc.go:136", after := #[{ on := 19, ground := .data }, { on := 18, ground := .guard }], guard := some (18, true) } ?_
                    try simp only [Act.put, List.setIfInBounds_toArray, List.set_cons_zero, List.set_cons_succ]
                    refine tu 21 { dst := some 58, op := .binOp .neq 9 (.tmp 57) (.const (.string { data := #[] })) 9, type := 4, pos := "mvcc.go:136", after := #[{ on := 20, ground := .data }, { on := 18, ground := .guard }], guard := some (18, true) } ?_
                    try simp only [Act.put, List.setIfInBounds_toArray, List.set_cons_zero, List.set_cons_succ]
                    refine tk 22 { dst := some 59, op := .pick (.tmp 55) (.tmp 58) (.const (.bool false)), type := 4, pos := "mvcc.go:136", after := #[{ on := 18, ground := .data }, { on := 21, ground := .data }, { on := 15, ground := .guard }], guard := some (15, false) } _ ?_
                    try simp only [Act.put, List.setIfInBounds_toArray, List.set_cons_zero, List.set_cons_succ]
                    refine tk 23 { dst := some 60, op := .pick (.tmp 52) (.const (.bool true)) (.tmp 59), type := 4, pos := "mvcc.go:136", after := #[{ on := 15, ground := .data }, { on := 22, ground := .data }], guard := none } _ ?_
                    try simp only [Act.put, List.setIfInBounds_toArray, List.set_cons_zero, List.set_cons_succ]
                    refine wpAnyH_done (by kernel_rfl) ?_ _
                    go_wp2_with fail
                    go_meet
                    case rel => exact ⟨false, rfl, p0, (fun h => by cases h), (fun _ => HQ.out)⟩
                  · have HDR := Lib.hid hdr
                    by_cases h0 : u.data = noText
                    · have hte : u.data.toList.isEmpty = true := by rw [no_text, decide_eq_true h0]
                      have HQ := Lib.hid (HGOODQ.out (fun _ => h0))
                      clear h0
                      refine wp_region_held_drew (S := fun wq => (wq.cell? ⟨gu, 0, none⟩ = some (.int .i64 u.at_.wall) ∧ wq.cell? ⟨gu, 1, none⟩ = some (.int .i64 u.at_.tie) ∧ wq.cell? ⟨gu, 2, none⟩ = some (.bool true) ∧ wq.cell? ⟨gu, 3, none⟩ = some (.string u.data))) (by kernel_rfl) ?s_lm_n1 (fun hHeld => ?_)
                      case s_lm_n1 => exact HS.out _ p0
                      refine tk 0 { dst := some 37, op := .move (.tmp 3), type := 3, pos := "mvcc.go:136", after := #[], guard := none } _ ?_
                      try simp only [Act.put, List.setIfInBounds_toArray, List.set_cons_zero, List.set_cons_succ]
                      refine tk 1 { dst := some 38, op := .binOp .gtr 3 (.tmp 37) (.const (.int .i64 0)) 3, type := 4, pos := "mvcc.go:136", after := #[{ on := 0, ground := .data }], guard := none } _ ?_
                      try simp only [Act.put, List.setIfInBounds_toArray, List.set_cons_zero, List.set_cons_succ]
                      refine tk 2 { dst := some 39, op := .move (.tmp 38), type := 4, pos := "mvcc.go:136", after := #[{ on := 1, ground := .data }], guard := none } _ ?_
                      try simp only [Act.put, List.setIfInBounds_toArray, List.set_cons_zero, List.set_cons_succ]
                      refine tu 3 { dst := some 40, op := .fieldAddr 45 (.tmp 1) 1, type := 0, pos := "mvcc.go:136", after := #[{ on := 2, ground := .guard }], guard := some (2, true) } ?_
                      try simp only [Act.put, List.setIfInBounds_toArray, List.set_cons_zero, List.set_cons_succ]
                      refine tu 4 { dst := some 41, op := .load 43 (.tmp 40), type := 43, pos := "mvcc.go:136", after := #[{ on := 3, ground := .data }, { on := 2, ground := .guard }], guard := some (2, true) } ?_
                      try simp only [Act.put, List.setIfInBounds_toArray, List.set_cons_zero, List.set_cons_succ]
                      refine tu 5 { dst := some 42, op := .move (.tmp 3), type := 3, pos := "mvcc.go:136", after := #[{ on := 2, ground := .guard }], guard := some (2, true) } ?_
                      try simp only [Act.put, List.setIfInBounds_toArray, List.set_cons_zero, List.set_cons_succ]
                      refine tu 6 { dst := some 43, op := .binOp .sub 3 (.tmp 42) (.const (.int .i64 1)) 3, type := 3, pos := "mvcc.go:136", after := #[{ on := 5, ground := .data }, { on := 2, ground := .guard }], guard := some (2, true) } ?_
                      try simp only [Act.put, List.setIfInBounds_toArray, List.set_cons_zero, List.set_cons_succ]
                      refine tu 7 { dst := some 44, op := .indexAddr 43 (.tmp 41) (.tmp 43), type := 0, pos := "mvcc.go:136", after := #[{ on := 4, ground := .data }, { on := 6, ground := .data }, { on := 2, ground := .guard }], guard := some (2, true) } ?_
                      try simp only [Act.put, List.setIfInBounds_toArray, List.set_cons_zero, List.set_cons_succ]
                      refine tu 8 { dst := some 45, op := .fieldAddr 47 (.tmp 44) 0, type := 0, pos := "mvcc.go:136", after := #[{ on := 7, ground := .data }, { on := 2, ground := .guard }], guard := some (2, true) } ?_
                      try simp only [Act.put, List.setIfInBounds_toArray, List.set_cons_zero, List.set_cons_succ]
                      refine tu 9 { dst := some 46, op := .load 24 (.tmp 45), type := 24, pos := "mvcc.go:136", after := #[{ on := 8, ground := .data }, { on := 2, ground := .guard }], guard := some (2, true) } ?_
                      try simp only [Act.put, List.setIfInBounds_toArray, List.set_cons_zero, List.set_cons_succ]
                      refine tu 10 { dst := some 47, op := .fieldAddr 47 (.tmp 4) 0, type := 0, pos := "mvcc.go:136", after := #[{ on := 2, ground := .guard }], guard := some (2, true) } ?_
                      try simp only [Act.put, List.setIfInBounds_toArray, List.set_cons_zero, List.set_cons_succ]
                      refine tu 11 { dst := some 48, op := .load 24 (.tmp 47), type := 24, pos := "mvcc.go:136", after := #[{ on := 10, ground := .data }, { on := 2, ground := .guard }], guard := some (2, true) } ?_
                      try simp only [Act.put, List.setIfInBounds_toArray, List.set_cons_zero, List.set_cons_succ]
                      refine tu 12 { dst := some 49, op := .call { callee := .value (.func 52), args := #[.tmp 46, .tmp 48], argTypes := #[24, 24] }, type := 4, pos := "mvcc.go:136", after := #[{ on := 9, ground := .data }, { on := 11, ground := .data }, { on := 2, ground := .chain }, { on := 2, ground := .guard }], guard := some (2, true) } ?_
                      try simp only [Act.put, List.setIfInBounds_toArray, List.set_cons_zero, List.set_cons_succ]
                      refine tu 13 { dst := some 50, op := .unOp .not 4 (.tmp 49), type := 4, pos := "mvcc.go:136", after := #[{ on := 12, ground := .data }, { on := 2, ground := .guard }], guard := some (2, true) } ?_
                      try simp only [Act.put, List.setIfInBounds_toArray, List.set_cons_zero, List.set_cons_succ]
                      refine tk 14 { dst := some 51, op := .pick (.tmp 39) (.tmp 50) (.const (.bool false)), type := 4, pos := "mvcc.go:136", after := #[{ on := 2, ground := .data }, { on := 13, ground := .data }], guard := none } _ ?_
                      try simp only [Act.put, List.setIfInBounds_toArray, List.set_cons_zero, List.set_cons_succ]
                      refine tk 15 { dst := some 52, op := .move (.tmp 51), type := 4, pos := "mvcc.go:136", after := #[{ on := 14, ground := .data }, { on := 12, ground := .chain }], guard := none } _ ?_
                      try simp only [Act.put, List.setIfInBounds_toArray, List.set_cons_zero, List.set_cons_succ]
                      refine tk 16 { dst := some 53, op := .fieldAddr 47 (.tmp 4) 1, type := 0, pos := "mvcc.go:136", after := #[{ on := 15, ground := .guard }], guard := some (15, false) } _ ?_
                      try simp only [Act.put, List.setIfInBounds_toArray, List.set_cons_zero, List.set_cons_succ]
                      refine tk 17 { dst := some 54, op := .load 4 (.tmp 53), type := 4, pos := "mvcc.go:136", after := #[{ on := 16, ground := .data }, { on := 15, ground := .guard }], guard := some (15, false) } _ ?_
                      try simp only [Act.put, List.setIfInBounds_toArray, List.set_cons_zero, List.set_cons_succ]
                      refine tk 18 { dst := some 55, op := .move (.tmp 54), type := 4, pos := "mvcc.go:136", after := #[{ on := 17, ground := .data }, { on := 15, ground := .chain }, { on := 15, ground := .guard }], guard := some (15, false) } _ ?_
                      try simp only [Act.put, List.setIfInBounds_toArray, List.set_cons_zero, List.set_cons_succ]
                      refine tk 19 { dst := some 56, op := .fieldAddr 47 (.tmp 4) 2, type := 0, pos := "mvcc.go:136", after := #[{ on := 18, ground := .guard }], guard := some (18, true) } _ ?_
                      try simp only [Act.put, List.setIfInBounds_toArray, List.set_cons_zero, List.set_cons_succ]
                      refine tk 20 { dst := some 57, op := .load 9 (.tmp 56), type := 9, pos := "mvcc.go:136", after := #[{ on := 19, ground := .data }, { on := 18, ground := .guard }], guard := some (18, true) } _ ?_
                      try simp only [Act.put, List.setIfInBounds_toArray, List.set_cons_zero, List.set_cons_succ]
                      refine tk 21 { dst := some 58, op := .binOp .neq 9 (.tmp 57) (.const (.string { data := #[] })) 9, type := 4, pos := "mvcc.go:136", after := #[{ on := 20, ground := .data }, { on := 18, ground := .guard }], guard := some (18, true) } _ ?_
                      try simp only [Act.put, List.setIfInBounds_toArray, List.set_cons_zero, List.set_cons_succ]
                      refine tk 22 { dst := some 59, op := .pick (.tmp 55) (.tmp 58) (.const (.bool false)), type := 4, pos := "mvcc.go:136", after := #[{ on := 18, ground := .data }, { on := 21, ground := .data }, { on := 15, ground := .guard }], guard := some (15, false) } _ ?_
                      try simp only [Act.put, List.setIfInBounds_toArray, List.set_cons_zero, List.set_cons_succ]
                      refine tk 23 { dst := some 60, op := .pick (.tmp 52) (.const (.bool true)) (.tmp 59), type := 4, pos := "mvcc.go:136", after := #[{ on := 15, ground := .data }, { on := 22, ground := .data }], guard := none } _ ?_
                      try simp only [Act.put, List.setIfInBounds_toArray, List.set_cons_zero, List.set_cons_succ]
                      refine wpAnyH_done (by kernel_rfl) ?_ _
                      go_wp2_with fail
                      go_meet
                      case rel => exact ⟨false, rfl, p0, (fun h => by cases h), (fun _ => HQ.out)⟩
                    · have hte : u.data.toList.isEmpty = false := by rw [no_text, decide_eq_false h0]
                      have HQ := Lib.hid (fun (h : verQ xv 0 u) => h0 (h.2 HDR.out))
                      clear h0
                      refine wp_region_held_drew (S := fun wq => (wq.cell? ⟨gu, 0, none⟩ = some (.int .i64 u.at_.wall) ∧ wq.cell? ⟨gu, 1, none⟩ = some (.int .i64 u.at_.tie) ∧ wq.cell? ⟨gu, 2, none⟩ = some (.bool true) ∧ wq.cell? ⟨gu, 3, none⟩ = some (.string u.data))) (by kernel_rfl) ?s_lm_n1b (fun hHeld => ?_)
                      case s_lm_n1b => exact HS.out _ p0
                      refine tk 0 { dst := some 37, op := .move (.tmp 3), type := 3, pos := "mvcc.go:136", after := #[], guard := none } _ ?_
                      try simp only [Act.put, List.setIfInBounds_toArray, List.set_cons_zero, List.set_cons_succ]
                      refine tk 1 { dst := some 38, op := .binOp .gtr 3 (.tmp 37) (.const (.int .i64 0)) 3, type := 4, pos := "mvcc.go:136", after := #[{ on := 0, ground := .data }], guard := none } _ ?_
                      try simp only [Act.put, List.setIfInBounds_toArray, List.set_cons_zero, List.set_cons_succ]
                      refine tk 2 { dst := some 39, op := .move (.tmp 38), type := 4, pos := "mvcc.go:136", after := #[{ on := 1, ground := .data }], guard := none } _ ?_
                      try simp only [Act.put, List.setIfInBounds_toArray, List.set_cons_zero, List.set_cons_succ]
                      refine tu 3 { dst := some 40, op := .fieldAddr 45 (.tmp 1) 1, type := 0, pos := "mvcc.go:136", after := #[{ on := 2, ground := .guard }], guard := some (2, true) } ?_
                      try simp only [Act.put, List.setIfInBounds_toArray, List.set_cons_zero, List.set_cons_succ]
                      refine tu 4 { dst := some 41, op := .load 43 (.tmp 40), type := 43, pos := "mvcc.go:136", after := #[{ on := 3, ground := .data }, { on := 2, ground := .guard }], guard := some (2, true) } ?_
                      try simp only [Act.put, List.setIfInBounds_toArray, List.set_cons_zero, List.set_cons_succ]
                      refine tu 5 { dst := some 42, op := .move (.tmp 3), type := 3, pos := "mvcc.go:136", after := #[{ on := 2, ground := .guard }], guard := some (2, true) } ?_
                      try simp only [Act.put, List.setIfInBounds_toArray, List.set_cons_zero, List.set_cons_succ]
                      refine tu 6 { dst := some 43, op := .binOp .sub 3 (.tmp 42) (.const (.int .i64 1)) 3, type := 3, pos := "mvcc.go:136", after := #[{ on := 5, ground := .data }, { on := 2, ground := .guard }], guard := some (2, true) } ?_
                      try simp only [Act.put, List.setIfInBounds_toArray, List.set_cons_zero, List.set_cons_succ]
                      refine tu 7 { dst := some 44, op := .indexAddr 43 (.tmp 41) (.tmp 43), type := 0, pos := "mvcc.go:136", after := #[{ on := 4, ground := .data }, { on := 6, ground := .data }, { on := 2, ground := .guard }], guard := some (2, true) } ?_
                      try simp only [Act.put, List.setIfInBounds_toArray, List.set_cons_zero, List.set_cons_succ]
                      refine tu 8 { dst := some 45, op := .fieldAddr 47 (.tmp 44) 0, type := 0, pos := "mvcc.go:136", after := #[{ on := 7, ground := .data }, { on := 2, ground := .guard }], guard := some (2, true) } ?_
                      try simp only [Act.put, List.setIfInBounds_toArray, List.set_cons_zero, List.set_cons_succ]
                      refine tu 9 { dst := some 46, op := .load 24 (.tmp 45), type := 24, pos := "mvcc.go:136", after := #[{ on := 8, ground := .data }, { on := 2, ground := .guard }], guard := some (2, true) } ?_
                      try simp only [Act.put, List.setIfInBounds_toArray, List.set_cons_zero, List.set_cons_succ]
                      refine tu 10 { dst := some 47, op := .fieldAddr 47 (.tmp 4) 0, type := 0, pos := "mvcc.go:136", after := #[{ on := 2, ground := .guard }], guard := some (2, true) } ?_
                      try simp only [Act.put, List.setIfInBounds_toArray, List.set_cons_zero, List.set_cons_succ]
                      refine tu 11 { dst := some 48, op := .load 24 (.tmp 47), type := 24, pos := "mvcc.go:136", after := #[{ on := 10, ground := .data }, { on := 2, ground := .guard }], guard := some (2, true) } ?_
                      try simp only [Act.put, List.setIfInBounds_toArray, List.set_cons_zero, List.set_cons_succ]
                      refine tu 12 { dst := some 49, op := .call { callee := .value (.func 52), args := #[.tmp 46, .tmp 48], argTypes := #[24, 24] }, type := 4, pos := "mvcc.go:136", after := #[{ on := 9, ground := .data }, { on := 11, ground := .data }, { on := 2, ground := .chain }, { on := 2, ground := .guard }], guard := some (2, true) } ?_
                      try simp only [Act.put, List.setIfInBounds_toArray, List.set_cons_zero, List.set_cons_succ]
                      refine tu 13 { dst := some 50, op := .unOp .not 4 (.tmp 49), type := 4, pos := "mvcc.go:136", after := #[{ on := 12, ground := .data }, { on := 2, ground := .guard }], guard := some (2, true) } ?_
                      try simp only [Act.put, List.setIfInBounds_toArray, List.set_cons_zero, List.set_cons_succ]
                      refine tk 14 { dst := some 51, op := .pick (.tmp 39) (.tmp 50) (.const (.bool false)), type := 4, pos := "mvcc.go:136", after := #[{ on := 2, ground := .data }, { on := 13, ground := .data }], guard := none } _ ?_
                      try simp only [Act.put, List.setIfInBounds_toArray, List.set_cons_zero, List.set_cons_succ]
                      refine tk 15 { dst := some 52, op := .move (.tmp 51), type := 4, pos := "mvcc.go:136", after := #[{ on := 14, ground := .data }, { on := 12, ground := .chain }], guard := none } _ ?_
                      try simp only [Act.put, List.setIfInBounds_toArray, List.set_cons_zero, List.set_cons_succ]
                      refine tk 16 { dst := some 53, op := .fieldAddr 47 (.tmp 4) 1, type := 0, pos := "mvcc.go:136", after := #[{ on := 15, ground := .guard }], guard := some (15, false) } _ ?_
                      try simp only [Act.put, List.setIfInBounds_toArray, List.set_cons_zero, List.set_cons_succ]
                      refine tk 17 { dst := some 54, op := .load 4 (.tmp 53), type := 4, pos := "mvcc.go:136", after := #[{ on := 16, ground := .data }, { on := 15, ground := .guard }], guard := some (15, false) } _ ?_
                      try simp only [Act.put, List.setIfInBounds_toArray, List.set_cons_zero, List.set_cons_succ]
                      refine tk 18 { dst := some 55, op := .move (.tmp 54), type := 4, pos := "mvcc.go:136", after := #[{ on := 17, ground := .data }, { on := 15, ground := .chain }, { on := 15, ground := .guard }], guard := some (15, false) } _ ?_
                      try simp only [Act.put, List.setIfInBounds_toArray, List.set_cons_zero, List.set_cons_succ]
                      refine tk 19 { dst := some 56, op := .fieldAddr 47 (.tmp 4) 2, type := 0, pos := "mvcc.go:136", after := #[{ on := 18, ground := .guard }], guard := some (18, true) } _ ?_
                      try simp only [Act.put, List.setIfInBounds_toArray, List.set_cons_zero, List.set_cons_succ]
                      refine tk 20 { dst := some 57, op := .load 9 (.tmp 56), type := 9, pos := "mvcc.go:136", after := #[{ on := 19, ground := .data }, { on := 18, ground := .guard }], guard := some (18, true) } _ ?_
                      try simp only [Act.put, List.setIfInBounds_toArray, List.set_cons_zero, List.set_cons_succ]
                      refine tk 21 { dst := some 58, op := .binOp .neq 9 (.tmp 57) (.const (.string { data := #[] })) 9, type := 4, pos := "mvcc.go:136", after := #[{ on := 20, ground := .data }, { on := 18, ground := .guard }], guard := some (18, true) } _ ?_
                      try simp only [Act.put, List.setIfInBounds_toArray, List.set_cons_zero, List.set_cons_succ]
                      refine tk 22 { dst := some 59, op := .pick (.tmp 55) (.tmp 58) (.const (.bool false)), type := 4, pos := "mvcc.go:136", after := #[{ on := 18, ground := .data }, { on := 21, ground := .data }, { on := 15, ground := .guard }], guard := some (15, false) } _ ?_
                      try simp only [Act.put, List.setIfInBounds_toArray, List.set_cons_zero, List.set_cons_succ]
                      refine tk 23 { dst := some 60, op := .pick (.tmp 52) (.const (.bool true)) (.tmp 59), type := 4, pos := "mvcc.go:136", after := #[{ on := 15, ground := .data }, { on := 22, ground := .data }], guard := none } _ ?_
                      try simp only [Act.put, List.setIfInBounds_toArray, List.set_cons_zero, List.set_cons_succ]
                      refine wpAnyH_done (by kernel_rfl) ?_ _
                      go_wp2_with fail
                      go_meet
                      case rel => exact ⟨true, rfl, p0, (fun _ => HQ.out), (fun h => by cases h)⟩
                · obtain ⟨p2, q2, z, e2, hp2, hz, hAz⟩ := HRV.out j (by omega)
                  simp only [Option.some.injEq, Addr.mk.injEq, and_true] at e2
                  obtain ⟨rfl, rfl⟩ := e2
                  have HAZ := Lib.hid (fun (wq : World) (hq : Below w.heap.size w wq) => (show wq.cell? ⟨p1, q1 + j * 4, none⟩ = some (.int .i64 z.at_.wall) ∧ wq.cell? ⟨p1, q1 + j * 4 + 1, none⟩ = some (.int .i64 z.at_.tie) from ⟨(hAz.below (show p1 < w.heap.size by omega) hq) 0 _ rfl, (hAz.below (show p1 < w.heap.size by omega) hq) 1 _ rfl⟩))
                  have HKD := Lib.hid (fun (wq : World) (hq : Below wd.heap.size wd wq) => (show wq.cell? ⟨g, 1, none⟩ = some (.slice (some ⟨p1, q1, none⟩) xv.length cv) from (kd.below hq kd.lt).cell 1))
                  have LSu := Lib.hid (fun w => LS.out z.at_ u.at_ w)
                  have hjn : ((j + 1 : Nat) : Int) - 1 = (j : Int) := by omega
                  have hj1 : ((j + 1 : Nat) : Int) > 0 := by omega
                  have hjw : IntKind.i64.wrap (j : Int) = (j : Int) := by rw [IntKind.wrap_i64]; omega
                  have hjl : (j : Int) < (xv.length : Int) := by omega
                  have HBADQ : Hid (lessF z.at_ u.at_ = false → ¬ verQ xv (j + 1) u) := fun h hq => by
                    have := hq.1 z (by omega) (by rw [show j + 1 - 1 = j by omega]; exact hz)
                    rw [h] at this; cases this
                  have HGOODQ : Hid (lessF z.at_ u.at_ = true → (u.drop = true → u.data = noText) → verQ xv (j + 1) u) := fun h hd => ⟨fun z2 _ hz2 => by
                    rw [show j + 1 - 1 = j by omega, hz] at hz2
                    obtain rfl := Option.some.inj hz2
                    exact h, hd⟩
                  clear hz hAz
                  generalize hle : lessF z.at_ u.at_ = bl at *
                  rcases bl with _ | _
                  · have HBQ := Lib.hid (HBADQ.out rfl)
                    clear HBADQ HGOODQ
                    have HS : Hid (∀ wq, Below yu.heap.size yu wq → (wq.cell? ⟨gu, 0, none⟩ = some (.int .i64 u.at_.wall) ∧ wq.cell? ⟨gu, 1, none⟩ = some (.int .i64 u.at_.tie) ∧ wq.cell? ⟨gu, 2, none⟩ = some (.bool u.drop) ∧ wq.cell? ⟨gu, 3, none⟩ = some (.string u.data)) ∧ wq.cell? ⟨g, 1, none⟩ = some (.slice (some ⟨p1, q1, none⟩) xv.length cv) ∧ wq.cell? ⟨p1, q1 + j * 4, none⟩ = some (.int .i64 z.at_.wall) ∧ wq.cell? ⟨p1, q1 + j * 4 + 1, none⟩ = some (.int .i64 z.at_.tie)) := fun wq hq => by
                      exact ⟨blk4 (ku.below hq hul), HKD.out wq (hBu.trans (hq.mono hBu.size)), HAZ.out wq (hBwu.trans (hq.mono hBwu.size))⟩
                    refine wp_region_held_drew (S := fun wq => (wq.cell? ⟨gu, 0, none⟩ = some (.int .i64 u.at_.wall) ∧ wq.cell? ⟨gu, 1, none⟩ = some (.int .i64 u.at_.tie) ∧ wq.cell? ⟨gu, 2, none⟩ = some (.bool u.drop) ∧ wq.cell? ⟨gu, 3, none⟩ = some (.string u.data)) ∧ wq.cell? ⟨g, 1, none⟩ = some (.slice (some ⟨p1, q1, none⟩) xv.length cv) ∧ wq.cell? ⟨p1, q1 + j * 4, none⟩ = some (.int .i64 z.at_.wall) ∧ wq.cell? ⟨p1, q1 + j * 4 + 1, none⟩ = some (.int .i64 z.at_.tie)) (by kernel_rfl) ?s_lm_f (fun hHeld => ?_)
                    case s_lm_f => exact HS.out _ p0
                    refine tk 0 { dst := some 37, op := .move (.tmp 3), type := 3, pos := "mvcc.go:136", after := #[], guard := none } _ ?_
                    try simp only [Act.put, List.setIfInBounds_toArray, List.set_cons_zero, List.set_cons_succ]
                    refine tk 1 { dst := some 38, op := .binOp .gtr 3 (.tmp 37) (.const (.int .i64 0)) 3, type := 4, pos := "mvcc.go:136", after := #[{ on := 0, ground := .data }], guard := none } _ ?_
                    try simp only [Act.put, List.setIfInBounds_toArray, List.set_cons_zero, List.set_cons_succ]
                    refine tk 2 { dst := some 39, op := .move (.tmp 38), type := 4, pos := "mvcc.go:136", after := #[{ on := 1, ground := .data }], guard := none } _ ?_
                    try simp only [Act.put, List.setIfInBounds_toArray, List.set_cons_zero, List.set_cons_succ]
                    refine tk 3 { dst := some 40, op := .fieldAddr 45 (.tmp 1) 1, type := 0, pos := "mvcc.go:136", after := #[{ on := 2, ground := .guard }], guard := some (2, true) } _ ?_
                    try simp only [Act.put, List.setIfInBounds_toArray, List.set_cons_zero, List.set_cons_succ]
                    refine tk 4 { dst := some 41, op := .load 43 (.tmp 40), type := 43, pos := "mvcc.go:136", after := #[{ on := 3, ground := .data }, { on := 2, ground := .guard }], guard := some (2, true) } _ ?_
                    try simp only [Act.put, List.setIfInBounds_toArray, List.set_cons_zero, List.set_cons_succ]
                    refine tk 5 { dst := some 42, op := .move (.tmp 3), type := 3, pos := "mvcc.go:136", after := #[{ on := 2, ground := .guard }], guard := some (2, true) } _ ?_
                    try simp only [Act.put, List.setIfInBounds_toArray, List.set_cons_zero, List.set_cons_succ]
                    refine tk 6 { dst := some 43, op := .binOp .sub 3 (.tmp 42) (.const (.int .i64 1)) 3, type := 3, pos := "mvcc.go:136", after := #[{ on := 5, ground := .data }, { on := 2, ground := .guard }], guard := some (2, true) } _ ?_
                    try simp only [Act.put, List.setIfInBounds_toArray, List.set_cons_zero, List.set_cons_succ]
                    refine tk 7 { dst := some 44, op := .indexAddr 43 (.tmp 41) (.tmp 43), type := 0, pos := "mvcc.go:136", after := #[{ on := 4, ground := .data }, { on := 6, ground := .data }, { on := 2, ground := .guard }], guard := some (2, true) } _ ?_
                    try simp only [Act.put, List.setIfInBounds_toArray, List.set_cons_zero, List.set_cons_succ]
                    refine tk 8 { dst := some 45, op := .fieldAddr 47 (.tmp 44) 0, type := 0, pos := "mvcc.go:136", after := #[{ on := 7, ground := .data }, { on := 2, ground := .guard }], guard := some (2, true) } _ ?_
                    try simp only [Act.put, List.setIfInBounds_toArray, List.set_cons_zero, List.set_cons_succ]
                    refine tk 9 { dst := some 46, op := .load 24 (.tmp 45), type := 24, pos := "mvcc.go:136", after := #[{ on := 8, ground := .data }, { on := 2, ground := .guard }], guard := some (2, true) } _ ?_
                    try simp only [Act.put, List.setIfInBounds_toArray, List.set_cons_zero, List.set_cons_succ]
                    refine tk 10 { dst := some 47, op := .fieldAddr 47 (.tmp 4) 0, type := 0, pos := "mvcc.go:136", after := #[{ on := 2, ground := .guard }], guard := some (2, true) } _ ?_
                    try simp only [Act.put, List.setIfInBounds_toArray, List.set_cons_zero, List.set_cons_succ]
                    refine tk 11 { dst := some 48, op := .load 24 (.tmp 47), type := 24, pos := "mvcc.go:136", after := #[{ on := 10, ground := .data }, { on := 2, ground := .guard }], guard := some (2, true) } _ ?_
                    try simp only [Act.put, List.setIfInBounds_toArray, List.set_cons_zero, List.set_cons_succ]
                    refine wpAnyH_ready (rs := [12]) (by kernel_rfl) (by simp) ?_
                    refine AllReadyH.cons (o := { dst := some 49, op := .call { callee := .value (.func 52), args := #[.tmp 46, .tmp 48], argTypes := #[24, 24] }, type := 4, pos := "mvcc.go:136", after := #[{ on := 9, ground := .data }, { on := 11, ground := .data }, { on := 2, ground := .chain }, { on := 2, ground := .guard }], guard := some (2, true) }) rfl (fun KQ hKQ => ?_) AllReadyH.nil
                    go_simp
                    refine (LSu.out _).mono ?_
                    rintro e z1 ⟨rfl, hZ1⟩
                    have p1 := p0.trans (hZ1.mono p0.size)
                    have r1 := HS.out _ p1
                    go_wp2_with fail
                    refine hKQ.out _ _ ?s_12 (fun hHeld12 => ?_)
                    case s_12 => exact r1
                    clear hKQ KQ
                    try simp only [Act.put, List.setIfInBounds_toArray, List.set_cons_zero, List.set_cons_succ]
                    refine tk 13 { dst := some 50, op := .unOp .not 4 (.tmp 49), type := 4, pos := "mvcc.go:136", after := #[{ on := 12, ground := .data }, { on := 2, ground := .guard }], guard := some (2, true) } _ ?_
                    try simp only [Act.put, List.setIfInBounds_toArray, List.set_cons_zero, List.set_cons_succ]
                    refine tk 14 { dst := some 51, op := .pick (.tmp 39) (.tmp 50) (.const (.bool false)), type := 4, pos := "mvcc.go:136", after := #[{ on := 2, ground := .data }, { on := 13, ground := .data }], guard := none } _ ?_
                    try simp only [Act.put, List.setIfInBounds_toArray, List.set_cons_zero, List.set_cons_succ]
                    refine tk 15 { dst := some 52, op := .move (.tmp 51), type := 4, pos := "mvcc.go:136", after := #[{ on := 14, ground := .data }, { on := 12, ground := .chain }], guard := none } _ ?_
                    try simp only [Act.put, List.setIfInBounds_toArray, List.set_cons_zero, List.set_cons_succ]
                    refine tu 16 { dst := some 53, op := .fieldAddr 47 (.tmp 4) 1, type := 0, pos := "mvcc.go:136", after := #[{ on := 15, ground := .guard }], guard := some (15, false) } ?_
                    try simp only [Act.put, List.setIfInBounds_toArray, List.set_cons_zero, List.set_cons_succ]
                    refine tu 17 { dst := some 54, op := .load 4 (.tmp 53), type := 4, pos := "mvcc.go:136", after := #[{ on := 16, ground := .data }, { on := 15, ground := .guard }], guard := some (15, false) } ?_
                    try simp only [Act.put, List.setIfInBounds_toArray, List.set_cons_zero, List.set_cons_succ]
                    refine tu 18 { dst := some 55, op := .move (.tmp 54), type := 4, pos := "mvcc.go:136", after := #[{ on := 17, ground := .data }, { on := 15, ground := .chain }, { on := 15, ground := .guard }], guard := some (15, false) } ?_
                    try simp only [Act.put, List.setIfInBounds_toArray, List.set_cons_zero, List.set_cons_succ]
                    refine tu 19 { dst := some 56, op := .fieldAddr 47 (.tmp 4) 2, type := 0, pos := "mvcc.go:136", after := #[{ on := 18, ground := .guard }], guard := some (18, true) } ?_
                    try simp only [Act.put, List.setIfInBounds_toArray, List.set_cons_zero, List.set_cons_succ]
                    refine tu 20 { dst := some 57, op := .load 9 (.tmp 56), type := 9, pos := "mvcc.go:136", after := #[{ on := 19, ground := .data }, { on := 18, ground := .guard }], guard := some (18, true) } ?_
                    try simp only [Act.put, List.setIfInBounds_toArray, List.set_cons_zero, List.set_cons_succ]
                    refine tu 21 { dst := some 58, op := .binOp .neq 9 (.tmp 57) (.const (.string { data := #[] })) 9, type := 4, pos := "mvcc.go:136", after := #[{ on := 20, ground := .data }, { on := 18, ground := .guard }], guard := some (18, true) } ?_
                    try simp only [Act.put, List.setIfInBounds_toArray, List.set_cons_zero, List.set_cons_succ]
                    refine tu 22 { dst := some 59, op := .pick (.tmp 55) (.tmp 58) (.const (.bool false)), type := 4, pos := "mvcc.go:136", after := #[{ on := 18, ground := .data }, { on := 21, ground := .data }, { on := 15, ground := .guard }], guard := some (15, false) } ?_
                    try simp only [Act.put, List.setIfInBounds_toArray, List.set_cons_zero, List.set_cons_succ]
                    refine tk 23 { dst := some 60, op := .pick (.tmp 52) (.const (.bool true)) (.tmp 59), type := 4, pos := "mvcc.go:136", after := #[{ on := 15, ground := .data }, { on := 22, ground := .data }], guard := none } _ ?_
                    try simp only [Act.put, List.setIfInBounds_toArray, List.set_cons_zero, List.set_cons_succ]
                    refine wpAnyH_done (by kernel_rfl) ?_ _
                    go_wp2_with fail
                    go_meet
                    case rel => exact ⟨true, rfl, p1, (fun _ => HBQ.out), (fun h => by cases h)⟩
                  · have HGQ := Lib.hid (HGOODQ.out rfl)
                    clear HBADQ HGOODQ
                    have HGOODQ := HGQ
                    clear HGQ
                    have HS : Hid (∀ wq, Below yu.heap.size yu wq → (wq.cell? ⟨gu, 0, none⟩ = some (.int .i64 u.at_.wall) ∧ wq.cell? ⟨gu, 1, none⟩ = some (.int .i64 u.at_.tie) ∧ wq.cell? ⟨gu, 2, none⟩ = some (.bool u.drop) ∧ wq.cell? ⟨gu, 3, none⟩ = some (.string u.data)) ∧ wq.cell? ⟨g, 1, none⟩ = some (.slice (some ⟨p1, q1, none⟩) xv.length cv) ∧ wq.cell? ⟨p1, q1 + j * 4, none⟩ = some (.int .i64 z.at_.wall) ∧ wq.cell? ⟨p1, q1 + j * 4 + 1, none⟩ = some (.int .i64 z.at_.tie)) := fun wq hq => by
                      exact ⟨blk4 (ku.below hq hul), HKD.out wq (hBu.trans (hq.mono hBu.size)), HAZ.out wq (hBwu.trans (hq.mono hBwu.size))⟩
                    generalize hdr : u.drop = udr at *
                    rcases udr with _ | _
                    · have HQ := Lib.hid (HGOODQ.out (fun h => by cases h))
                      refine wp_region_held_drew (S := fun wq => (wq.cell? ⟨gu, 0, none⟩ = some (.int .i64 u.at_.wall) ∧ wq.cell? ⟨gu, 1, none⟩ = some (.int .i64 u.at_.tie) ∧ wq.cell? ⟨gu, 2, none⟩ = some (.bool false) ∧ wq.cell? ⟨gu, 3, none⟩ = some (.string u.data)) ∧ wq.cell? ⟨g, 1, none⟩ = some (.slice (some ⟨p1, q1, none⟩) xv.length cv) ∧ wq.cell? ⟨p1, q1 + j * 4, none⟩ = some (.int .i64 z.at_.wall) ∧ wq.cell? ⟨p1, q1 + j * 4 + 1, none⟩ = some (.int .i64 z.at_.tie)) (by kernel_rfl) ?s_lm_t0 (fun hHeld => ?_)
                      case s_lm_t0 => exact HS.out _ p0
                      refine tk 0 { dst := some 37, op := .move (.tmp 3), type := 3, pos := "mvcc.go:136", after := #[], guard := none } _ ?_
                      try simp only [Act.put, List.setIfInBounds_toArray, List.set_cons_zero, List.set_cons_succ]
                      refine tk 1 { dst := some 38, op := .binOp .gtr 3 (.tmp 37) (.const (.int .i64 0)) 3, type := 4, pos := "mvcc.go:136", after := #[{ on := 0, ground := .data }], guard := none } _ ?_
                      try simp only [Act.put, List.setIfInBounds_toArray, List.set_cons_zero, List.set_cons_succ]
                      refine tk 2 { dst := some 39, op := .move (.tmp 38), type := 4, pos := "mvcc.go:136", after := #[{ on := 1, ground := .data }], guard := none } _ ?_
                      try simp only [Act.put, List.setIfInBounds_toArray, List.set_cons_zero, List.set_cons_succ]
                      refine tk 3 { dst := some 40, op := .fieldAddr 45 (.tmp 1) 1, type := 0, pos := "mvcc.go:136", after := #[{ on := 2, ground := .guard }], guard := some (2, true) } _ ?_
                      try simp only [Act.put, List.setIfInBounds_toArray, List.set_cons_zero, List.set_cons_succ]
                      refine tk 4 { dst := some 41, op := .load 43 (.tmp 40), type := 43, pos := "mvcc.go:136", after := #[{ on := 3, ground := .data }, { on := 2, ground := .guard }], guard := some (2, true) } _ ?_
                      try simp only [Act.put, List.setIfInBounds_toArray, List.set_cons_zero, List.set_cons_succ]
                      refine tk 5 { dst := some 42, op := .move (.tmp 3), type := 3, pos := "mvcc.go:136", after := #[{ on := 2, ground := .guard }], guard := some (2, true) } _ ?_
                      try simp only [Act.put, List.setIfInBounds_toArray, List.set_cons_zero, List.set_cons_succ]
                      refine tk 6 { dst := some 43, op := .binOp .sub 3 (.tmp 42) (.const (.int .i64 1)) 3, type := 3, pos := "mvcc.go:136", after := #[{ on := 5, ground := .data }, { on := 2, ground := .guard }], guard := some (2, true) } _ ?_
                      try simp only [Act.put, List.setIfInBounds_toArray, List.set_cons_zero, List.set_cons_succ]
                      refine tk 7 { dst := some 44, op := .indexAddr 43 (.tmp 41) (.tmp 43), type := 0, pos := "mvcc.go:136", after := #[{ on := 4, ground := .data }, { on := 6, ground := .data }, { on := 2, ground := .guard }], guard := some (2, true) } _ ?_
                      try simp only [Act.put, List.setIfInBounds_toArray, List.set_cons_zero, List.set_cons_succ]
                      refine tk 8 { dst := some 45, op := .fieldAddr 47 (.tmp 44) 0, type := 0, pos := "mvcc.go:136", after := #[{ on := 7, ground := .data }, { on := 2, ground := .guard }], guard := some (2, true) } _ ?_
                      try simp only [Act.put, List.setIfInBounds_toArray, List.set_cons_zero, List.set_cons_succ]
                      refine tk 9 { dst := some 46, op := .load 24 (.tmp 45), type := 24, pos := "mvcc.go:136", after := #[{ on := 8, ground := .data }, { on := 2, ground := .guard }], guard := some (2, true) } _ ?_
                      try simp only [Act.put, List.setIfInBounds_toArray, List.set_cons_zero, List.set_cons_succ]
                      refine tk 10 { dst := some 47, op := .fieldAddr 47 (.tmp 4) 0, type := 0, pos := "mvcc.go:136", after := #[{ on := 2, ground := .guard }], guard := some (2, true) } _ ?_
                      try simp only [Act.put, List.setIfInBounds_toArray, List.set_cons_zero, List.set_cons_succ]
                      refine tk 11 { dst := some 48, op := .load 24 (.tmp 47), type := 24, pos := "mvcc.go:136", after := #[{ on := 10, ground := .data }, { on := 2, ground := .guard }], guard := some (2, true) } _ ?_
                      try simp only [Act.put, List.setIfInBounds_toArray, List.set_cons_zero, List.set_cons_succ]
                      refine wpAnyH_ready (rs := [12]) (by kernel_rfl) (by simp) ?_
                      refine AllReadyH.cons (o := { dst := some 49, op := .call { callee := .value (.func 52), args := #[.tmp 46, .tmp 48], argTypes := #[24, 24] }, type := 4, pos := "mvcc.go:136", after := #[{ on := 9, ground := .data }, { on := 11, ground := .data }, { on := 2, ground := .chain }, { on := 2, ground := .guard }], guard := some (2, true) }) rfl (fun KQ hKQ => ?_) AllReadyH.nil
                      go_simp
                      refine (LSu.out _).mono ?_
                      rintro e z1 ⟨rfl, hZ1⟩
                      have p1 := p0.trans (hZ1.mono p0.size)
                      have r1 := HS.out _ p1
                      go_wp2_with fail
                      refine hKQ.out _ _ ?s_12 (fun hHeld12 => ?_)
                      case s_12 => exact r1
                      clear hKQ KQ
                      try simp only [Act.put, List.setIfInBounds_toArray, List.set_cons_zero, List.set_cons_succ]
                      refine tk 13 { dst := some 50, op := .unOp .not 4 (.tmp 49), type := 4, pos := "mvcc.go:136", after := #[{ on := 12, ground := .data }, { on := 2, ground := .guard }], guard := some (2, true) } _ ?_
                      try simp only [Act.put, List.setIfInBounds_toArray, List.set_cons_zero, List.set_cons_succ]
                      refine tk 14 { dst := some 51, op := .pick (.tmp 39) (.tmp 50) (.const (.bool false)), type := 4, pos := "mvcc.go:136", after := #[{ on := 2, ground := .data }, { on := 13, ground := .data }], guard := none } _ ?_
                      try simp only [Act.put, List.setIfInBounds_toArray, List.set_cons_zero, List.set_cons_succ]
                      refine tk 15 { dst := some 52, op := .move (.tmp 51), type := 4, pos := "mvcc.go:136", after := #[{ on := 14, ground := .data }, { on := 12, ground := .chain }], guard := none } _ ?_
                      try simp only [Act.put, List.setIfInBounds_toArray, List.set_cons_zero, List.set_cons_succ]
                      refine tk 16 { dst := some 53, op := .fieldAddr 47 (.tmp 4) 1, type := 0, pos := "mvcc.go:136", after := #[{ on := 15, ground := .guard }], guard := some (15, false) } _ ?_
                      try simp only [Act.put, List.setIfInBounds_toArray, List.set_cons_zero, List.set_cons_succ]
                      refine tk 17 { dst := some 54, op := .load 4 (.tmp 53), type := 4, pos := "mvcc.go:136", after := #[{ on := 16, ground := .data }, { on := 15, ground := .guard }], guard := some (15, false) } _ ?_
                      try simp only [Act.put, List.setIfInBounds_toArray, List.set_cons_zero, List.set_cons_succ]
                      refine tk 18 { dst := some 55, op := .move (.tmp 54), type := 4, pos := "mvcc.go:136", after := #[{ on := 17, ground := .data }, { on := 15, ground := .chain }, { on := 15, ground := .guard }], guard := some (15, false) } _ ?_
                      try simp only [Act.put, List.setIfInBounds_toArray, List.set_cons_zero, List.set_cons_succ]
                      refine tu 19 { dst := some 56, op := .fieldAddr 47 (.tmp 4) 2, type := 0, pos := "mvcc.go:136", after := #[{ on := 18, ground := .guard }], guard := some (18, true) } ?_
                      try simp only [Act.put, List.setIfInBounds_toArray, List.set_cons_zero, List.set_cons_succ]
                      refine tu 20 { dst := some 57, op := .load 9 (.tmp 56), type := 9, pos := "mvcc.go:136", after := #[{ on := 19, ground := .data }, { on := 18, ground := .guard }], guard := some (18, true) } ?_
                      try simp only [Act.put, List.setIfInBounds_toArray, List.set_cons_zero, List.set_cons_succ]
                      refine tu 21 { dst := some 58, op := .binOp .neq 9 (.tmp 57) (.const (.string { data := #[] })) 9, type := 4, pos := "mvcc.go:136", after := #[{ on := 20, ground := .data }, { on := 18, ground := .guard }], guard := some (18, true) } ?_
                      try simp only [Act.put, List.setIfInBounds_toArray, List.set_cons_zero, List.set_cons_succ]
                      refine tk 22 { dst := some 59, op := .pick (.tmp 55) (.tmp 58) (.const (.bool false)), type := 4, pos := "mvcc.go:136", after := #[{ on := 18, ground := .data }, { on := 21, ground := .data }, { on := 15, ground := .guard }], guard := some (15, false) } _ ?_
                      try simp only [Act.put, List.setIfInBounds_toArray, List.set_cons_zero, List.set_cons_succ]
                      refine tk 23 { dst := some 60, op := .pick (.tmp 52) (.const (.bool true)) (.tmp 59), type := 4, pos := "mvcc.go:136", after := #[{ on := 15, ground := .data }, { on := 22, ground := .data }], guard := none } _ ?_
                      try simp only [Act.put, List.setIfInBounds_toArray, List.set_cons_zero, List.set_cons_succ]
                      refine wpAnyH_done (by kernel_rfl) ?_ _
                      go_wp2_with fail
                      go_meet
                      case rel => exact ⟨false, rfl, p1, (fun h => by cases h), (fun _ => HQ.out)⟩
                    · have HDR := Lib.hid hdr
                      by_cases h0 : u.data = noText
                      · have hte : u.data.toList.isEmpty = true := by rw [no_text, decide_eq_true h0]
                        have HQ := Lib.hid (HGOODQ.out (fun _ => h0))
                        clear h0
                        refine wp_region_held_drew (S := fun wq => (wq.cell? ⟨gu, 0, none⟩ = some (.int .i64 u.at_.wall) ∧ wq.cell? ⟨gu, 1, none⟩ = some (.int .i64 u.at_.tie) ∧ wq.cell? ⟨gu, 2, none⟩ = some (.bool true) ∧ wq.cell? ⟨gu, 3, none⟩ = some (.string u.data)) ∧ wq.cell? ⟨g, 1, none⟩ = some (.slice (some ⟨p1, q1, none⟩) xv.length cv) ∧ wq.cell? ⟨p1, q1 + j * 4, none⟩ = some (.int .i64 z.at_.wall) ∧ wq.cell? ⟨p1, q1 + j * 4 + 1, none⟩ = some (.int .i64 z.at_.tie)) (by kernel_rfl) ?s_lm_t1 (fun hHeld => ?_)
                        case s_lm_t1 => exact HS.out _ p0
                        refine tk 0 { dst := some 37, op := .move (.tmp 3), type := 3, pos := "mvcc.go:136", after := #[], guard := none } _ ?_
                        try simp only [Act.put, List.setIfInBounds_toArray, List.set_cons_zero, List.set_cons_succ]
                        refine tk 1 { dst := some 38, op := .binOp .gtr 3 (.tmp 37) (.const (.int .i64 0)) 3, type := 4, pos := "mvcc.go:136", after := #[{ on := 0, ground := .data }], guard := none } _ ?_
                        try simp only [Act.put, List.setIfInBounds_toArray, List.set_cons_zero, List.set_cons_succ]
                        refine tk 2 { dst := some 39, op := .move (.tmp 38), type := 4, pos := "mvcc.go:136", after := #[{ on := 1, ground := .data }], guard := none } _ ?_
                        try simp only [Act.put, List.setIfInBounds_toArray, List.set_cons_zero, List.set_cons_succ]
                        refine tk 3 { dst := some 40, op := .fieldAddr 45 (.tmp 1) 1, type := 0, pos := "mvcc.go:136", after := #[{ on := 2, ground := .guard }], guard := some (2, true) } _ ?_
                        try simp only [Act.put, List.setIfInBounds_toArray, List.set_cons_zero, List.set_cons_succ]
                        refine tk 4 { dst := some 41, op := .load 43 (.tmp 40), type := 43, pos := "mvcc.go:136", after := #[{ on := 3, ground := .data }, { on := 2, ground := .guard }], guard := some (2, true) } _ ?_
                        try simp only [Act.put, List.setIfInBounds_toArray, List.set_cons_zero, List.set_cons_succ]
                        refine tk 5 { dst := some 42, op := .move (.tmp 3), type := 3, pos := "mvcc.go:136", after := #[{ on := 2, ground := .guard }], guard := some (2, true) } _ ?_
                        try simp only [Act.put, List.setIfInBounds_toArray, List.set_cons_zero, List.set_cons_succ]
                        refine tk 6 { dst := some 43, op := .binOp .sub 3 (.tmp 42) (.const (.int .i64 1)) 3, type := 3, pos := "mvcc.go:136", after := #[{ on := 5, ground := .data }, { on := 2, ground := .guard }], guard := some (2, true) } _ ?_
                        try simp only [Act.put, List.setIfInBounds_toArray, List.set_cons_zero, List.set_cons_succ]
                        refine tk 7 { dst := some 44, op := .indexAddr 43 (.tmp 41) (.tmp 43), type := 0, pos := "mvcc.go:136", after := #[{ on := 4, ground := .data }, { on := 6, ground := .data }, { on := 2, ground := .guard }], guard := some (2, true) } _ ?_
                        try simp only [Act.put, List.setIfInBounds_toArray, List.set_cons_zero, List.set_cons_succ]
                        refine tk 8 { dst := some 45, op := .fieldAddr 47 (.tmp 44) 0, type := 0, pos := "mvcc.go:136", after := #[{ on := 7, ground := .data }, { on := 2, ground := .guard }], guard := some (2, true) } _ ?_
                        try simp only [Act.put, List.setIfInBounds_toArray, List.set_cons_zero, List.set_cons_succ]
                        refine tk 9 { dst := some 46, op := .load 24 (.tmp 45), type := 24, pos := "mvcc.go:136", after := #[{ on := 8, ground := .data }, { on := 2, ground := .guard }], guard := some (2, true) } _ ?_
                        try simp only [Act.put, List.setIfInBounds_toArray, List.set_cons_zero, List.set_cons_succ]
                        refine tk 10 { dst := some 47, op := .fieldAddr 47 (.tmp 4) 0, type := 0, pos := "mvcc.go:136", after := #[{ on := 2, ground := .guard }], guard := some (2, true) } _ ?_
                        try simp only [Act.put, List.setIfInBounds_toArray, List.set_cons_zero, List.set_cons_succ]
                        refine tk 11 { dst := some 48, op := .load 24 (.tmp 47), type := 24, pos := "mvcc.go:136", after := #[{ on := 10, ground := .data }, { on := 2, ground := .guard }], guard := some (2, true) } _ ?_
                        try simp only [Act.put, List.setIfInBounds_toArray, List.set_cons_zero, List.set_cons_succ]
                        refine wpAnyH_ready (rs := [12]) (by kernel_rfl) (by simp) ?_
                        refine AllReadyH.cons (o := { dst := some 49, op := .call { callee := .value (.func 52), args := #[.tmp 46, .tmp 48], argTypes := #[24, 24] }, type := 4, pos := "mvcc.go:136", after := #[{ on := 9, ground := .data }, { on := 11, ground := .data }, { on := 2, ground := .chain }, { on := 2, ground := .guard }], guard := some (2, true) }) rfl (fun KQ hKQ => ?_) AllReadyH.nil
                        go_simp
                        refine (LSu.out _).mono ?_
                        rintro e z1 ⟨rfl, hZ1⟩
                        have p1 := p0.trans (hZ1.mono p0.size)
                        have r1 := HS.out _ p1
                        go_wp2_with fail
                        refine hKQ.out _ _ ?s_12 (fun hHeld12 => ?_)
                        case s_12 => exact r1
                        clear hKQ KQ
                        try simp only [Act.put, List.setIfInBounds_toArray, List.set_cons_zero, List.set_cons_succ]
                        refine tk 13 { dst := some 50, op := .unOp .not 4 (.tmp 49), type := 4, pos := "mvcc.go:136", after := #[{ on := 12, ground := .data }, { on := 2, ground := .guard }], guard := some (2, true) } _ ?_
                        try simp only [Act.put, List.setIfInBounds_toArray, List.set_cons_zero, List.set_cons_succ]
                        refine tk 14 { dst := some 51, op := .pick (.tmp 39) (.tmp 50) (.const (.bool false)), type := 4, pos := "mvcc.go:136", after := #[{ on := 2, ground := .data }, { on := 13, ground := .data }], guard := none } _ ?_
                        try simp only [Act.put, List.setIfInBounds_toArray, List.set_cons_zero, List.set_cons_succ]
                        refine tk 15 { dst := some 52, op := .move (.tmp 51), type := 4, pos := "mvcc.go:136", after := #[{ on := 14, ground := .data }, { on := 12, ground := .chain }], guard := none } _ ?_
                        try simp only [Act.put, List.setIfInBounds_toArray, List.set_cons_zero, List.set_cons_succ]
                        refine tk 16 { dst := some 53, op := .fieldAddr 47 (.tmp 4) 1, type := 0, pos := "mvcc.go:136", after := #[{ on := 15, ground := .guard }], guard := some (15, false) } _ ?_
                        try simp only [Act.put, List.setIfInBounds_toArray, List.set_cons_zero, List.set_cons_succ]
                        refine tk 17 { dst := some 54, op := .load 4 (.tmp 53), type := 4, pos := "mvcc.go:136", after := #[{ on := 16, ground := .data }, { on := 15, ground := .guard }], guard := some (15, false) } _ ?_
                        try simp only [Act.put, List.setIfInBounds_toArray, List.set_cons_zero, List.set_cons_succ]
                        refine tk 18 { dst := some 55, op := .move (.tmp 54), type := 4, pos := "mvcc.go:136", after := #[{ on := 17, ground := .data }, { on := 15, ground := .chain }, { on := 15, ground := .guard }], guard := some (15, false) } _ ?_
                        try simp only [Act.put, List.setIfInBounds_toArray, List.set_cons_zero, List.set_cons_succ]
                        refine tk 19 { dst := some 56, op := .fieldAddr 47 (.tmp 4) 2, type := 0, pos := "mvcc.go:136", after := #[{ on := 18, ground := .guard }], guard := some (18, true) } _ ?_
                        try simp only [Act.put, List.setIfInBounds_toArray, List.set_cons_zero, List.set_cons_succ]
                        refine tk 20 { dst := some 57, op := .load 9 (.tmp 56), type := 9, pos := "mvcc.go:136", after := #[{ on := 19, ground := .data }, { on := 18, ground := .guard }], guard := some (18, true) } _ ?_
                        try simp only [Act.put, List.setIfInBounds_toArray, List.set_cons_zero, List.set_cons_succ]
                        refine tk 21 { dst := some 58, op := .binOp .neq 9 (.tmp 57) (.const (.string { data := #[] })) 9, type := 4, pos := "mvcc.go:136", after := #[{ on := 20, ground := .data }, { on := 18, ground := .guard }], guard := some (18, true) } _ ?_
                        try simp only [Act.put, List.setIfInBounds_toArray, List.set_cons_zero, List.set_cons_succ]
                        refine tk 22 { dst := some 59, op := .pick (.tmp 55) (.tmp 58) (.const (.bool false)), type := 4, pos := "mvcc.go:136", after := #[{ on := 18, ground := .data }, { on := 21, ground := .data }, { on := 15, ground := .guard }], guard := some (15, false) } _ ?_
                        try simp only [Act.put, List.setIfInBounds_toArray, List.set_cons_zero, List.set_cons_succ]
                        refine tk 23 { dst := some 60, op := .pick (.tmp 52) (.const (.bool true)) (.tmp 59), type := 4, pos := "mvcc.go:136", after := #[{ on := 15, ground := .data }, { on := 22, ground := .data }], guard := none } _ ?_
                        try simp only [Act.put, List.setIfInBounds_toArray, List.set_cons_zero, List.set_cons_succ]
                        refine wpAnyH_done (by kernel_rfl) ?_ _
                        go_wp2_with fail
                        go_meet
                        case rel => exact ⟨false, rfl, p1, (fun h => by cases h), (fun _ => HQ.out)⟩
                      · have hte : u.data.toList.isEmpty = false := by rw [no_text, decide_eq_false h0]
                        have HQ := Lib.hid (fun (h : verQ xv (j + 1) u) => h0 (h.2 HDR.out))
                        clear h0
                        refine wp_region_held_drew (S := fun wq => (wq.cell? ⟨gu, 0, none⟩ = some (.int .i64 u.at_.wall) ∧ wq.cell? ⟨gu, 1, none⟩ = some (.int .i64 u.at_.tie) ∧ wq.cell? ⟨gu, 2, none⟩ = some (.bool true) ∧ wq.cell? ⟨gu, 3, none⟩ = some (.string u.data)) ∧ wq.cell? ⟨g, 1, none⟩ = some (.slice (some ⟨p1, q1, none⟩) xv.length cv) ∧ wq.cell? ⟨p1, q1 + j * 4, none⟩ = some (.int .i64 z.at_.wall) ∧ wq.cell? ⟨p1, q1 + j * 4 + 1, none⟩ = some (.int .i64 z.at_.tie)) (by kernel_rfl) ?s_lm_t1b (fun hHeld => ?_)
                        case s_lm_t1b => exact HS.out _ p0
                        refine tk 0 { dst := some 37, op := .move (.tmp 3), type := 3, pos := "mvcc.go:136", after := #[], guard := none } _ ?_
                        try simp only [Act.put, List.setIfInBounds_toArray, List.set_cons_zero, List.set_cons_succ]
                        refine tk 1 { dst := some 38, op := .binOp .gtr 3 (.tmp 37) (.const (.int .i64 0)) 3, type := 4, pos := "mvcc.go:136", after := #[{ on := 0, ground := .data }], guard := none } _ ?_
                        try simp only [Act.put, List.setIfInBounds_toArray, List.set_cons_zero, List.set_cons_succ]
                        refine tk 2 { dst := some 39, op := .move (.tmp 38), type := 4, pos := "mvcc.go:136", after := #[{ on := 1, ground := .data }], guard := none } _ ?_
                        try simp only [Act.put, List.setIfInBounds_toArray, List.set_cons_zero, List.set_cons_succ]
                        refine tk 3 { dst := some 40, op := .fieldAddr 45 (.tmp 1) 1, type := 0, pos := "mvcc.go:136", after := #[{ on := 2, ground := .guard }], guard := some (2, true) } _ ?_
                        try simp only [Act.put, List.setIfInBounds_toArray, List.set_cons_zero, List.set_cons_succ]
                        refine tk 4 { dst := some 41, op := .load 43 (.tmp 40), type := 43, pos := "mvcc.go:136", after := #[{ on := 3, ground := .data }, { on := 2, ground := .guard }], guard := some (2, true) } _ ?_
                        try simp only [Act.put, List.setIfInBounds_toArray, List.set_cons_zero, List.set_cons_succ]
                        refine tk 5 { dst := some 42, op := .move (.tmp 3), type := 3, pos := "mvcc.go:136", after := #[{ on := 2, ground := .guard }], guard := some (2, true) } _ ?_
                        try simp only [Act.put, List.setIfInBounds_toArray, List.set_cons_zero, List.set_cons_succ]
                        refine tk 6 { dst := some 43, op := .binOp .sub 3 (.tmp 42) (.const (.int .i64 1)) 3, type := 3, pos := "mvcc.go:136", after := #[{ on := 5, ground := .data }, { on := 2, ground := .guard }], guard := some (2, true) } _ ?_
                        try simp only [Act.put, List.setIfInBounds_toArray, List.set_cons_zero, List.set_cons_succ]
                        refine tk 7 { dst := some 44, op := .indexAddr 43 (.tmp 41) (.tmp 43), type := 0, pos := "mvcc.go:136", after := #[{ on := 4, ground := .data }, { on := 6, ground := .data }, { on := 2, ground := .guard }], guard := some (2, true) } _ ?_
                        try simp only [Act.put, List.setIfInBounds_toArray, List.set_cons_zero, List.set_cons_succ]
                        refine tk 8 { dst := some 45, op := .fieldAddr 47 (.tmp 44) 0, type := 0, pos := "mvcc.go:136", after := #[{ on := 7, ground := .data }, { on := 2, ground := .guard }], guard := some (2, true) } _ ?_
                        try simp only [Act.put, List.setIfInBounds_toArray, List.set_cons_zero, List.set_cons_succ]
                        refine tk 9 { dst := some 46, op := .load 24 (.tmp 45), type := 24, pos := "mvcc.go:136", after := #[{ on := 8, ground := .data }, { on := 2, ground := .guard }], guard := some (2, true) } _ ?_
                        try simp only [Act.put, List.setIfInBounds_toArray, List.set_cons_zero, List.set_cons_succ]
                        refine tk 10 { dst := some 47, op := .fieldAddr 47 (.tmp 4) 0, type := 0, pos := "mvcc.go:136", after := #[{ on := 2, ground := .guard }], guard := some (2, true) } _ ?_
                        try simp only [Act.put, List.setIfInBounds_toArray, List.set_cons_zero, List.set_cons_succ]
                        refine tk 11 { dst := some 48, op := .load 24 (.tmp 47), type := 24, pos := "mvcc.go:136", after := #[{ on := 10, ground := .data }, { on := 2, ground := .guard }], guard := some (2, true) } _ ?_
                        try simp only [Act.put, List.setIfInBounds_toArray, List.set_cons_zero, List.set_cons_succ]
                        refine wpAnyH_ready (rs := [12]) (by kernel_rfl) (by simp) ?_
                        refine AllReadyH.cons (o := { dst := some 49, op := .call { callee := .value (.func 52), args := #[.tmp 46, .tmp 48], argTypes := #[24, 24] }, type := 4, pos := "mvcc.go:136", after := #[{ on := 9, ground := .data }, { on := 11, ground := .data }, { on := 2, ground := .chain }, { on := 2, ground := .guard }], guard := some (2, true) }) rfl (fun KQ hKQ => ?_) AllReadyH.nil
                        go_simp
                        refine (LSu.out _).mono ?_
                        rintro e z1 ⟨rfl, hZ1⟩
                        have p1 := p0.trans (hZ1.mono p0.size)
                        have r1 := HS.out _ p1
                        go_wp2_with fail
                        refine hKQ.out _ _ ?s_12 (fun hHeld12 => ?_)
                        case s_12 => exact r1
                        clear hKQ KQ
                        try simp only [Act.put, List.setIfInBounds_toArray, List.set_cons_zero, List.set_cons_succ]
                        refine tk 13 { dst := some 50, op := .unOp .not 4 (.tmp 49), type := 4, pos := "mvcc.go:136", after := #[{ on := 12, ground := .data }, { on := 2, ground := .guard }], guard := some (2, true) } _ ?_
                        try simp only [Act.put, List.setIfInBounds_toArray, List.set_cons_zero, List.set_cons_succ]
                        refine tk 14 { dst := some 51, op := .pick (.tmp 39) (.tmp 50) (.const (.bool false)), type := 4, pos := "mvcc.go:136", after := #[{ on := 2, ground := .data }, { on := 13, ground := .data }], guard := none } _ ?_
                        try simp only [Act.put, List.setIfInBounds_toArray, List.set_cons_zero, List.set_cons_succ]
                        refine tk 15 { dst := some 52, op := .move (.tmp 51), type := 4, pos := "mvcc.go:136", after := #[{ on := 14, ground := .data }, { on := 12, ground := .chain }], guard := none } _ ?_
                        try simp only [Act.put, List.setIfInBounds_toArray, List.set_cons_zero, List.set_cons_succ]
                        refine tk 16 { dst := some 53, op := .fieldAddr 47 (.tmp 4) 1, type := 0, pos := "mvcc.go:136", after := #[{ on := 15, ground := .guard }], guard := some (15, false) } _ ?_
                        try simp only [Act.put, List.setIfInBounds_toArray, List.set_cons_zero, List.set_cons_succ]
                        refine tk 17 { dst := some 54, op := .load 4 (.tmp 53), type := 4, pos := "mvcc.go:136", after := #[{ on := 16, ground := .data }, { on := 15, ground := .guard }], guard := some (15, false) } _ ?_
                        try simp only [Act.put, List.setIfInBounds_toArray, List.set_cons_zero, List.set_cons_succ]
                        refine tk 18 { dst := some 55, op := .move (.tmp 54), type := 4, pos := "mvcc.go:136", after := #[{ on := 17, ground := .data }, { on := 15, ground := .chain }, { on := 15, ground := .guard }], guard := some (15, false) } _ ?_
                        try simp only [Act.put, List.setIfInBounds_toArray, List.set_cons_zero, List.set_cons_succ]
                        refine tk 19 { dst := some 56, op := .fieldAddr 47 (.tmp 4) 2, type := 0, pos := "mvcc.go:136", after := #[{ on := 18, ground := .guard }], guard := some (18, true) } _ ?_
                        try simp only [Act.put, List.setIfInBounds_toArray, List.set_cons_zero, List.set_cons_succ]
                        refine tk 20 { dst := some 57, op := .load 9 (.tmp 56), type := 9, pos := "mvcc.go:136", after := #[{ on := 19, ground := .data }, { on := 18, ground := .guard }], guard := some (18, true) } _ ?_
                        try simp only [Act.put, List.setIfInBounds_toArray, List.set_cons_zero, List.set_cons_succ]
                        refine tk 21 { dst := some 58, op := .binOp .neq 9 (.tmp 57) (.const (.string { data := #[] })) 9, type := 4, pos := "mvcc.go:136", after := #[{ on := 20, ground := .data }, { on := 18, ground := .guard }], guard := some (18, true) } _ ?_
                        try simp only [Act.put, List.setIfInBounds_toArray, List.set_cons_zero, List.set_cons_succ]
                        refine tk 22 { dst := some 59, op := .pick (.tmp 55) (.tmp 58) (.const (.bool false)), type := 4, pos := "mvcc.go:136", after := #[{ on := 18, ground := .data }, { on := 21, ground := .data }, { on := 15, ground := .guard }], guard := some (15, false) } _ ?_
                        try simp only [Act.put, List.setIfInBounds_toArray, List.set_cons_zero, List.set_cons_succ]
                        refine tk 23 { dst := some 60, op := .pick (.tmp 52) (.const (.bool true)) (.tmp 59), type := 4, pos := "mvcc.go:136", after := #[{ on := 15, ground := .data }, { on := 22, ground := .data }], guard := none } _ ?_
                        try simp only [Act.put, List.setIfInBounds_toArray, List.set_cons_zero, List.set_cons_succ]
                        refine wpAnyH_done (by kernel_rfl) ?_ _
                        go_wp2_with fail
                        go_meet
                        case rel => exact ⟨true, rfl, p1, (fun _ => HQ.out), (fun h => by cases h)⟩
              case rest =>
                obtain ⟨bb, rfl, hBc2, S1, S2⟩ := hcut
                rcases bb with _ | _
                · have HT2 := Lib.hid (HVM.out (S2.out rfl))
                  have hBf := hBu.trans (hBc2.out.mono hBu.size)
                  clear S1 S2 hBc2
                  go_wp2_with fail
                  go_roundw
                  case rel => exact ⟨k + 1, by omega, by go_num, HT2, hBf⟩
                  case measure => simp [intOf]; omega
                · have HN := Lib.hid (HBAD.out (HVN.out (S1.out rfl)))
                  have hBf := hBwu.trans (hBc2.out.mono hBwu.size)
                  clear S1 S2 hBc2
                  go_wp2_with fail
                  go_ret
                  exact ⟨false, rfl, ⟨(fun h => by cases h), (fun h => absurd h HN.out)⟩, hBf⟩
            · obtain rfl : k = xv.length := by omega
              have hV := hTk.out
              rw [List.take_length] at hV
              have HT2 := Lib.hid (HFIN.out hV)
              clear hV hTk
              go_wp2_with fail
              go_ret
              exact ⟨true, rfl, ⟨fun _ => HT2.out, fun _ => rfl⟩, hBwz⟩
        · have HN := Lib.hid (R1.out rfl)
          have hBw := hBx.out.trans (hBd.mono hBx.out.size)
          clear R1 R2
          go_wp2_with fail
          go_ret
          exact ⟨false, rfl, ⟨(fun h => by cases h), (fun h => absurd h HN.out)⟩, hBw⟩
    · have HN := Lib.hid (R1.out rfl)
      have hBw := hBx.out.trans (hBc.mono hBx.out.size)
      clear R1 R2
      go_wp2_with fail
      go_ret
      exact ⟨false, rfl, ⟨(fun h => by cases h), (fun h => absurd h HN.out)⟩, hBw⟩
end Go.Proofs.Ytlkhmpfdajefiaa.mvi
