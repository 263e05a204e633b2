/- What the document's May (antipoderef8) comes to. Conditions: at most 2^40 cells and versions. -/
import Derived.Test.YtlkhmpfdajefiaaRef8j
import Derived.Test.YtlkhmpfdajefiaaJoin0
namespace Go.Proofs.Ytlkhmpfdajefiaa.ref8
open Go Go.RowKit Go.Proofs.Ytlkhmpfdajefiaa.kit Go.Proofs.Ytlkhmpfdajefiaa.nums Go.Proofs.Ytlkhmpfdajefiaa.st Go.Proofs.Ytlkhmpfdajefiaa.mv
set_option linter.unusedVariables false

/-- What a call ends in that tells whether P holds. -/
def RetB (W : World) (P : Prop) (e : Ending) (w' : World) : Prop := ∃ b : Bool, e = .returned (.bool b) ∧ (b = true ↔ P) ∧ Below W.heap.size W w'
theorem no_text (a : ByteArray) : a.toList.isEmpty = decide (a = noText) := by
  rw [ByteArray.toList_eq]
  by_cases h : a = noText
  · subst h; rfl
  · rw [decide_eq_false h]
    have : ¬ a.data.toList = [] := fun e => h (ByteArray.ext (by
      have := Array.toList_inj.1 (show a.data.toList = (#[] : Array UInt8).toList from e)
      exact this))
    cases hl : a.data.toList with
    | nil => exact absurd hl this
    | cons _ _ => rfl
/-- What May asks of a cell but its versions, and of the one ahead. -/
def headP (cs : List CellL) (j : Nat) (x : CellL) : Prop := (∀ y, 0 < j → cs[j - 1]? = some y → sl y.key x.key = true) ∧ (x.locked = false → x.lock = zeroL) ∧ (x.vers = [] → x.locked = true) ∧ (x.lock.drop = true → x.lock.data = noText)
def verQ (vs : List VerL) (k : Nat) (v : VerL) : Prop := (∀ u, 0 < k → vs[k - 1]? = some u → lessF u.at_ v.at_ = true) ∧ (v.drop = true → v.data = noText)
theorem ok_more {cs : List CellL} {j : Nat} {x : CellL} (hx : cs[j]? = some x) (h : okC (cs.take j)) (hp : headP cs j x) (hv : verP x.vers) : okC (cs.take (j + 1)) := (ok_step hx).2 ⟨h, hp.1, hv, hp.2⟩
theorem ok_not {cs : List CellL} {j : Nat} {x : CellL} (hx : cs[j]? = some x) (h : ¬ headP cs j x ∨ ¬ verP x.vers) : ¬ okC cs := fun hc => by
  have := (ok_step hx).1 (ok_take hc (j + 1))
  rcases h with h | h
  · exact h ⟨this.2.1, this.2.2.2⟩
  · exact h this.2.2.1
theorem ver_more {vs : List VerL} {k : Nat} {v : VerL} (hv : vs[k]? = some v) (h : verP (vs.take k)) (hq : verQ vs k v) : verP (vs.take (k + 1)) := (ver_step hv).2 ⟨h, hq.1, hq.2⟩
theorem ver_not {vs : List VerL} {k : Nat} {v : VerL} (hv : vs[k]? = some v) (h : ¬ verQ vs k v) : ¬ verP vs := fun hc => h (((ver_step hv).1 (ver_take hc (k + 1))).2)
set_option maxRecDepth 100000 in
set_option maxHeartbeats 4000000 in
theorem may_any (A : Option Addr) (n c : Nat) (cs : List CellL) (w : World) (B : Nat) (hR : RdC w B A n cs) (hB : B ≤ w.heap.size) (hn : n ≤ 1099511627776) (hf : ∀ x ∈ cs, x.vers.length ≤ 1099511627776) :
    Calls Try.prog 18 #[.slice A n c] w (RetB w (okC cs)) := by
  obtain rfl : cs.length = n := hR.1
  have HR := Lib.hid (fun j (hj : j < cs.length) => hR.at_ hj)
  have HF := Lib.hid hf
  have NL := Lib.hid (fun (a : LockL) w => ne_lk a zeroL w)
  have LS := Lib.hid (fun (a b : StL) w => ref6.less_any a b w)
  unfold ref6.stV at LS
  unfold lockC zeroL noText at NL
  dsimp only at NL
  clear hR hf
  go_enter Try.func18, Try.ntmps18
  go_wp2_with fail
  go_loopw [3] (fun iv wr => ∃ j : Nat, j ≤ cs.length ∧ iv = .int .i64 j ∧ Hid (okC (cs.take j)) ∧ Below w.heap.size w wr) (fun iv _ => cs.length - (intOf iv).toNat)
  case atStart => exact ⟨0, Nat.zero_le _, rfl, ok_none, Below.refl _ _⟩
  case round =>
    obtain ⟨j, hj, rfl, hT, hBr⟩ := hrel
    have hsr := hBr.size
    by_cases hlt : j < cs.length
    · obtain ⟨b1, o1, x, sv, rfl, hb1, hx, hS, hA⟩ := HR.out j hlt
      have hvx := HF.out x (List.mem_of_getElem? hx)
      obtain ⟨As, cv, rfl, hc1, _, hRv⟩ := hS
      have HMORE := Lib.hid (fun hp hv => ok_more hx hT.out hp hv)
      have HNOT := Lib.hid (fun h => ok_not hx h)
      have HPRE : Hid (0 < j → ∃ y, cs[j - 1]? = some y ∧ ∀ wq, Below w.heap.size w wq → wq.cell? ⟨b1, o1 + (j - 1) * 12, none⟩ = some (.string y.key)) := fun h0 => by
        obtain ⟨b2, o2, y, sv2, e2, hb2, hy, _, hA2⟩ := HR.out (j - 1) (by omega)
        simp only [Option.some.injEq, Addr.mk.injEq, and_true] at e2
        obtain ⟨rfl, rfl⟩ := e2
        exact ⟨y, hy, fun wq hq => (hA2.below (show b1 < w.heap.size by omega) hq) 0 _ rfl⟩
      clear hT hx
      obtain ⟨xk, xv, xl, lx⟩ := x
      dsimp only at hvx hc1 hRv
      obtain ⟨a0, a1, a2, a3, a4, a5, a6, a7, a8, a9, a10, a11⟩ := at12 (hA.below (show b1 < w.heap.size by omega) hBr)
      have kx : Blk 45 (wr.alloc (.cells #[.string xk, .slice As xv.length cv, .bool xl, .int .i64 lx.by_.node, .int .i64 lx.by_.life, .int .i64 lx.by_.seq, .int .i64 lx.by_.att, .int .i64 lx.home, .int .i64 lx.at_.wall, .int .i64 lx.at_.tie, .bool lx.drop, .string lx.data] 45)) wr.heap.size [.string xk, .slice As xv.length cv, .bool xl, .int .i64 lx.by_.node, .int .i64 lx.by_.life, .int .i64 lx.by_.seq, .int .i64 lx.by_.att, .int .i64 lx.home, .int .i64 lx.at_.wall, .int .i64 lx.at_.tie, .bool lx.drop, .string lx.data] := heap_alloc_new wr _
      have hBx := hBr.alloc hsr (.cells #[.string xk, .slice As xv.length cv, .bool xl, .int .i64 lx.by_.node, .int .i64 lx.by_.life, .int .i64 lx.by_.seq, .int .i64 lx.by_.att, .int .i64 lx.home, .int .i64 lx.at_.wall, .int .i64 lx.at_.tie, .bool lx.drop, .string lx.data] 45)
      clear hA
      go_upto_region 5 with (fail)
      obtain ⟨g, hg⟩ : ∃ g, wr.heap.size = g := ⟨_, rfl⟩
      rw [hg] at kx ⊢
      generalize (wr.alloc (.cells #[.string xk, .slice As xv.length cv, .bool xl, .int .i64 lx.by_.node, .int .i64 lx.by_.life, .int .i64 lx.by_.seq, .int .i64 lx.by_.att, .int .i64 lx.home, .int .i64 lx.at_.wall, .int .i64 lx.at_.tie, .bool lx.drop, .string lx.data] 45)) = y at *
      clear a0 a1 a2 a3 a4 a5 a6 a7 a8 a9 a10 a11 hBr
      have hyl := kx.lt
      have p0 : Below y.heap.size y y := Below.refl _ _
      obtain ⟨e0, e1, e2, e3, e4, e5, e6, e7, e8, e9, e10, e11⟩ := blk12 kx
      go_cut [62] from 200 (fun bv wx => ∃ bb : Bool, bv = .bool bb ∧ Hid (Below y.heap.size y wx) ∧ Hid (bb = true → ¬ headP cs j ⟨xk, xv, xl, lx⟩) ∧ Hid (bb = false → headP cs j ⟨xk, xv, xl, lx⟩))
      case first =>
        have nl := NL.out lx
        by_cases h0 : j = 0
        · have HA : Hid (∀ z, 0 < j → cs[j - 1]? = some z → sl z.key xk = true) := fun z h => absurd h (by omega)
          have hjd : decide (0 < j) = false := decide_eq_false (by omega)
          clear h0
          rcases xl with _ | _
          · by_cases hz : lx = zeroL
            · have hdz : lx.drop = false := by rw [hz]; rfl
              have hzl := hz
              simp only [zeroL, noText] at hz
              simp only [decide_eq_true hz, Bool.not_true] at nl
              by_cases hv0 : xv.length = 0
              · obtain rfl : xv = [] := List.length_eq_zero_iff.1 hv0
                have HNP : Hid (¬ headP cs j ⟨xk, [], false, lx⟩) := fun h => by have := h.2.2.1 rfl; cases this
                rw [hdz] at nl
                clear hv0 hz hzl
                rw [hdz] at e10
                clear HMORE HNOT HPRE HF HR LS NL
                go_quiet (fail)
                go_wp2_with fail
                go_meet
                case rel => exact ⟨true, rfl, below_drewN p0 _, (fun _ => HNP.out), (fun h => by cases h)⟩
              · have HYP : Hid (headP cs j ⟨xk, xv, false, lx⟩) := ⟨HA.out, (fun _ => hzl), (fun h => absurd (show xv.length = 0 by rw [show xv = [] from h]; rfl) hv0), (fun h => by rw [show lx.drop = false from hdz] at h; cases h)⟩
                have hv1 : ((xv.length : Int) == 0) = false := by simpa using hv0
                have hv2 : ¬ xv = [] := fun e => hv0 (by rw [e]; rfl)
                rw [hdz] at nl
                clear hz hzl
                rw [hdz] at e10
                clear HMORE HNOT HPRE HF HR LS NL
                go_quiet (fail)
                go_wp2_with fail
                go_meet
                case rel => exact ⟨false, rfl, below_drewN p0 _, (fun h => by cases h), (fun _ => HYP.out)⟩
            · have hz' : ¬ lx = ⟨⟨0, 0, 0, 0⟩, 0, ⟨0, 0⟩, false, { data := #[] }⟩ := hz
              simp only [decide_eq_false hz', Bool.not_false] at nl
              have HNP : Hid (¬ headP cs j ⟨xk, xv, false, lx⟩) := fun h => hz (h.2.1 rfl)
              clear hz hz'
              clear HMORE HNOT HPRE HF HR LS NL
              go_quiet (fail)
              go_wp2_with fail
              go_meet
              case rel => exact ⟨true, rfl, below_drewN p0 _, (fun _ => HNP.out), (fun h => by cases h)⟩
          · by_cases hd : lx.drop = true
            · by_cases ht : lx.data = noText
              · have HYP : Hid (headP cs j ⟨xk, xv, true, lx⟩) := ⟨HA.out, (fun h => by cases h), (fun _ => rfl), (fun _ => ht)⟩
                have hte : lx.data.toList.isEmpty = true := by rw [no_text]; exact decide_eq_true ht
                clear ht
                by_cases hv0 : xv.length = 0
                · obtain rfl : xv = [] := List.length_eq_zero_iff.1 hv0
                  clear hv0
                  rw [hd] at e10
                  clear HMORE HNOT HPRE HF HR LS NL
                  go_quiet (fail)
                  go_wp2_with fail
                  go_meet
                  case rel => exact ⟨false, rfl, below_drewN p0 _, (fun h => by cases h), (fun _ => HYP.out)⟩
                · have hv1 : ((xv.length : Int) == 0) = false := by simpa using hv0
                  have hv2 : ¬ xv = [] := fun e => hv0 (by rw [e]; rfl)
                  rw [hd] at e10
                  clear HMORE HNOT HPRE HF HR LS NL
                  go_quiet (fail)
                  go_wp2_with fail
                  go_meet
                  case rel => exact ⟨false, rfl, below_drewN p0 _, (fun h => by cases h), (fun _ => HYP.out)⟩
              · have HNP : Hid (¬ headP cs j ⟨xk, xv, true, lx⟩) := fun h => ht (h.2.2.2 hd)
                have hte : lx.data.toList.isEmpty = false := by rw [no_text]; exact decide_eq_false ht
                clear ht
                by_cases hv0 : xv.length = 0
                · obtain rfl : xv = [] := List.length_eq_zero_iff.1 hv0
                  clear hv0
                  rw [hd] at e10
                  clear HMORE HNOT HPRE HF HR LS NL
                  go_quiet (fail)
                  go_wp2_with fail
                  go_meet
                  case rel => exact ⟨true, rfl, below_drewN p0 _, (fun _ => HNP.out), (fun h => by cases h)⟩
                · have hv1 : ((xv.length : Int) == 0) = false := by simpa using hv0
                  have hv2 : ¬ xv = [] := fun e => hv0 (by rw [e]; rfl)
                  rw [hd] at e10
                  clear HMORE HNOT HPRE HF HR LS NL
                  go_quiet (fail)
                  go_wp2_with fail
                  go_meet
                  case rel => exact ⟨true, rfl, below_drewN p0 _, (fun _ => HNP.out), (fun h => by cases h)⟩
            · have hd' : lx.drop = false := by simpa using hd
              have HYP : Hid (headP cs j ⟨xk, xv, true, lx⟩) := ⟨HA.out, (fun h => by cases h), (fun _ => rfl), (fun h => absurd h hd)⟩
              clear hd
              by_cases hv0 : xv.length = 0
              · obtain rfl : xv = [] := List.length_eq_zero_iff.1 hv0
                clear hv0
                rw [hd'] at e10
                clear HMORE HNOT HPRE HF HR LS NL
                go_quiet (fail)
                go_wp2_with fail
                go_meet
                case rel => exact ⟨false, rfl, below_drewN p0 _, (fun h => by cases h), (fun _ => HYP.out)⟩
              · have hv1 : ((xv.length : Int) == 0) = false := by simpa using hv0
                have hv2 : ¬ xv = [] := fun e => hv0 (by rw [e]; rfl)
                rw [hd'] at e10
                clear HMORE HNOT HPRE HF HR LS NL
                go_quiet (fail)
                go_wp2_with fail
                go_meet
                case rel => exact ⟨false, rfl, below_drewN p0 _, (fun h => by cases h), (fun _ => HYP.out)⟩
        · obtain ⟨z, hz1, hz2⟩ := HPRE.out (by omega)
          have hki : (j : Int) - 1 = ((j - 1 : Nat) : Int) := by omega
          have hj1 : 0 < j := by omega
          have hwj : IntKind.i64.wrap ((j - 1 : Nat) : Int) = ((j - 1 : Nat) : Int) := by unfold IntKind.wrap; simp [IntKind.signed, IntKind.bits]; omega
          have hjl : j - 1 < cs.length := by omega
          have htl := text_less z.key xk
          by_cases hs : sl z.key xk = true
          · have HA : Hid (∀ z', 0 < j → cs[j - 1]? = some z' → sl z'.key xk = true) := fun z' _ h => by rw [hz1] at h; obtain rfl := Option.some.inj h; exact hs
            rw [hs] at htl
            clear hs hz1
            rcases xl with _ | _
            · by_cases hz : lx = zeroL
              · have hdz : lx.drop = false := by rw [hz]; rfl
                have hzl := hz
                simp only [zeroL, noText] at hz
                simp only [decide_eq_true hz, Bool.not_true] at nl
                by_cases hv0 : xv.length = 0
                · obtain rfl : xv = [] := List.length_eq_zero_iff.1 hv0
                  have HNP : Hid (¬ headP cs j ⟨xk, [], false, lx⟩) := fun h => by have := h.2.2.1 rfl; cases this
                  rw [hdz] at nl
                  clear hv0 hz hzl
                  rw [hdz] at e10
                  have hzk := hz2 y hBx
                  clear HMORE HNOT HPRE HF HR LS NL
                  go_quiet (fail)
                  go_wp2_with fail
                  go_meet
                  case rel => exact ⟨true, rfl, below_drewN p0 _, (fun _ => HNP.out), (fun h => by cases h)⟩
                · have HYP : Hid (headP cs j ⟨xk, xv, false, lx⟩) := ⟨HA.out, (fun _ => hzl), (fun h => absurd (show xv.length = 0 by rw [show xv = [] from h]; rfl) hv0), (fun h => by rw [show lx.drop = false from hdz] at h; cases h)⟩
                  have hv1 : ((xv.length : Int) == 0) = false := by simpa using hv0
                  have hv2 : ¬ xv = [] := fun e => hv0 (by rw [e]; rfl)
                  rw [hdz] at nl
                  clear hz hzl
                  rw [hdz] at e10
                  have hzk := hz2 y hBx
                  clear HMORE HNOT HPRE HF HR LS NL
                  go_quiet (fail)
                  go_wp2_with fail
                  go_meet
                  case rel => exact ⟨false, rfl, below_drewN p0 _, (fun h => by cases h), (fun _ => HYP.out)⟩
              · have hz' : ¬ lx = ⟨⟨0, 0, 0, 0⟩, 0, ⟨0, 0⟩, false, { data := #[] }⟩ := hz
                simp only [decide_eq_false hz', Bool.not_false] at nl
                have HNP : Hid (¬ headP cs j ⟨xk, xv, false, lx⟩) := fun h => hz (h.2.1 rfl)
                clear hz hz'
                have hzk := hz2 y hBx
                clear HMORE HNOT HPRE HF HR LS NL
                go_quiet (fail)
                go_wp2_with fail
                go_meet
                case rel => exact ⟨true, rfl, below_drewN p0 _, (fun _ => HNP.out), (fun h => by cases h)⟩
            · by_cases hd : lx.drop = true
              · by_cases ht : lx.data = noText
                · have HYP : Hid (headP cs j ⟨xk, xv, true, lx⟩) := ⟨HA.out, (fun h => by cases h), (fun _ => rfl), (fun _ => ht)⟩
                  have hte : lx.data.toList.isEmpty = true := by rw [no_text]; exact decide_eq_true ht
                  clear ht
                  by_cases hv0 : xv.length = 0
                  · obtain rfl : xv = [] := List.length_eq_zero_iff.1 hv0
                    clear hv0
                    rw [hd] at e10
                    have hzk := hz2 y hBx
                    clear HMORE HNOT HPRE HF HR LS NL
                    go_quiet (fail)
                    go_wp2_with fail
                    go_meet
                    case rel => exact ⟨false, rfl, below_drewN p0 _, (fun h => by cases h), (fun _ => HYP.out)⟩
                  · have hv1 : ((xv.length : Int) == 0) = false := by simpa using hv0
                    have hv2 : ¬ xv = [] := fun e => hv0 (by rw [e]; rfl)
                    rw [hd] at e10
                    have hzk := hz2 y hBx
                    clear HMORE HNOT HPRE HF HR LS NL
                    go_quiet (fail)
                    go_wp2_with fail
                    go_meet
                    case rel => exact ⟨false, rfl, below_drewN p0 _, (fun h => by cases h), (fun _ => HYP.out)⟩
                · have HNP : Hid (¬ headP cs j ⟨xk, xv, true, lx⟩) := fun h => ht (h.2.2.2 hd)
                  have hte : lx.data.toList.isEmpty = false := by rw [no_text]; exact decide_eq_false ht
                  clear ht
                  by_cases hv0 : xv.length = 0
                  · obtain rfl : xv = [] := List.length_eq_zero_iff.1 hv0
                    clear hv0
                    rw [hd] at e10
                    have hzk := hz2 y hBx
                    clear HMORE HNOT HPRE HF HR LS NL
                    go_quiet (fail)
                    go_wp2_with fail
                    go_meet
                    case rel => exact ⟨true, rfl, below_drewN p0 _, (fun _ => HNP.out), (fun h => by cases h)⟩
                  · have hv1 : ((xv.length : Int) == 0) = false := by simpa using hv0
                    have hv2 : ¬ xv = [] := fun e => hv0 (by rw [e]; rfl)
                    rw [hd] at e10
                    have hzk := hz2 y hBx
                    clear HMORE HNOT HPRE HF HR LS NL
                    go_quiet (fail)
                    go_wp2_with fail
                    go_meet
                    case rel => exact ⟨true, rfl, below_drewN p0 _, (fun _ => HNP.out), (fun h => by cases h)⟩
              · have hd' : lx.drop = false := by simpa using hd
                have HYP : Hid (headP cs j ⟨xk, xv, true, lx⟩) := ⟨HA.out, (fun h => by cases h), (fun _ => rfl), (fun h => absurd h hd)⟩
                clear hd
                by_cases hv0 : xv.length = 0
                · obtain rfl : xv = [] := List.length_eq_zero_iff.1 hv0
                  clear hv0
                  rw [hd'] at e10
                  have hzk := hz2 y hBx
                  clear HMORE HNOT HPRE HF HR LS NL
                  go_quiet (fail)
                  go_wp2_with fail
                  go_meet
                  case rel => exact ⟨false, rfl, below_drewN p0 _, (fun h => by cases h), (fun _ => HYP.out)⟩
                · have hv1 : ((xv.length : Int) == 0) = false := by simpa using hv0
                  have hv2 : ¬ xv = [] := fun e => hv0 (by rw [e]; rfl)
                  rw [hd'] at e10
                  have hzk := hz2 y hBx
                  clear HMORE HNOT HPRE HF HR LS NL
                  go_quiet (fail)
                  go_wp2_with fail
                  go_meet
                  case rel => exact ⟨false, rfl, below_drewN p0 _, (fun h => by cases h), (fun _ => HYP.out)⟩
          · have HNP : Hid (¬ headP cs j ⟨xk, xv, xl, lx⟩) := fun h => hs (h.1 z (by omega) hz1)
            have hs' : sl z.key xk = false := by simpa using hs
            rw [hs'] at htl
            clear hs hz1
            have hzk := hz2 y hBx
            clear HMORE HNOT HPRE HF HR LS NL
            go_quiet (fail)
            go_wp2_with fail
            go_meet
            case rel => exact ⟨true, rfl, below_drewN p0 _, (fun _ => HNP.out), (fun h => by cases h)⟩
      case rest =>
        obtain ⟨bb, rfl, hBc, R1, R2⟩ := hcut
        have hBw := hBx.trans (hBc.out.mono hBx.size)
        have kc := kx.below hBc.out hyl
        clear e0 e1 e2 e3 e4 e5 e6 e7 e8 e9 e10 e11 p0 kx hyl hBc
        rcases bb with _ | _
        · have HHP := Lib.hid (R2.out rfl)
          clear R1 R2
          go_wp2_with fail
          go_loopw [5] (fun kv wz => ∃ k : Nat, k ≤ xv.length ∧ kv = .int .i64 k ∧ Hid (verP (xv.take k)) ∧ Below wc.heap.size wc wz) (fun kv _ => xv.length - (intOf kv).toNat)
          case atStart => exact ⟨0, Nat.zero_le _, rfl, ver_none, Below.refl _ _⟩
          case round =>
            obtain ⟨k, hk, rfl, hTk, hBz⟩ := hrel
            have kz := kc.below hBz kc.lt
            have hBwz := hBw.trans (hBz.mono hBw.size)
            have c1 := kz.cell 1
            simp only [List.getElem?_cons_zero, List.getElem?_cons_succ] at c1
            by_cases hkk : k < xv.length
            · obtain ⟨p1, q1, u, rfl, hp1, hu, hAu⟩ := hRv.at_ hkk
              have HVP : Hid (0 < k → ∃ z, xv[k - 1]? = some z ∧ ∀ wq, Below w.heap.size w wq → wq.cell? ⟨p1, q1 + (k - 1) * 4, none⟩ = some (.int .i64 z.at_.wall) ∧ wq.cell? ⟨p1, q1 + (k - 1) * 4 + 1, none⟩ = some (.int .i64 z.at_.tie)) := fun h0 => by
                obtain ⟨p2, q2, z, e2, hp2, hz, hAz⟩ := hRv.at_ (show k - 1 < xv.length by omega)
                simp only [Option.some.injEq, Addr.mk.injEq, and_true] at e2
                obtain ⟨rfl, rfl⟩ := e2
                exact ⟨z, hz, fun wq hq => ⟨(hAz.below (show p1 < w.heap.size by omega) hq) 0 _ rfl, (hAz.below (show p1 < w.heap.size by omega) hq) 1 _ rfl⟩⟩
              have HVM := Lib.hid (fun hq => ver_more hu hTk.out hq)
              have HVN := Lib.hid (fun h => ver_not hu h)
              obtain ⟨u0, u1, u2, u3⟩ := at4 (hAu.below (show p1 < w.heap.size by omega) hBwz)
              have ku : Blk 47 (wr.alloc (.cells #[.int .i64 u.at_.wall, .int .i64 u.at_.tie, .bool u.drop, .string u.data] 47)) wr.heap.size [.int .i64 u.at_.wall, .int .i64 u.at_.tie, .bool u.drop, .string u.data] := heap_alloc_new wr _
              have hBu := hBz.alloc hBz.size (.cells #[.int .i64 u.at_.wall, .int .i64 u.at_.tie, .bool u.drop, .string u.data] 47)
              clear hu hAu hTk
              go_upto_region 11 with (fail)
              obtain ⟨gu, hgu⟩ : ∃ gu, wr.heap.size = gu := ⟨_, rfl⟩
              rw [hgu] at ku ⊢
              have kzu := kz.alloc (.cells #[.int .i64 u.at_.wall, .int .i64 u.at_.tie, .bool u.drop, .string u.data] 47)
              have hBwu := hBwz.alloc hBwz.size (.cells #[.int .i64 u.at_.wall, .int .i64 u.at_.tie, .bool u.drop, .string u.data] 47)
              generalize (wr.alloc (.cells #[.int .i64 u.at_.wall, .int .i64 u.at_.tie, .bool u.drop, .string u.data] 47)) = yu at *
              clear u0 u1 u2 u3 c1 kz hBwz
              have c1 := kzu.cell 1
              simp only [List.getElem?_cons_zero, List.getElem?_cons_succ] at c1
              obtain ⟨u0, u1, u2, u3⟩ := blk4 ku
              go_cut [98] from 200 (fun bv wx => ∃ bb : Bool, bv = .bool bb ∧ Hid (Below yu.heap.size yu wx) ∧ Hid (bb = true → ¬ verQ xv k u) ∧ Hid (bb = false → verQ xv k u))
              case first =>
                have pu : Below yu.heap.size yu yu := Below.refl _ _
                by_cases hd : u.drop = true
                · by_cases ht : u.data = noText
                  · have HD : Hid (u.drop = true → u.data = noText) := fun _ => ht
                    have hte : u.data.toList.isEmpty = true := by rw [no_text]; exact decide_eq_true ht
                    rw [hd] at u2
                    clear ht
                    by_cases h0 : k = 0
                    · have HYP : Hid (verQ xv k u) := ⟨fun z h => absurd h (by omega), HD.out⟩
                      have hkd : decide (0 < k) = false := decide_eq_false (by omega)
                      clear h0 hd
                      clear HVM HVN HMORE HNOT HF HR NL
                      go_quiet (fail)
                      go_wp2_with fail
                      go_meet
                      case rel => exact ⟨false, rfl, below_drewN pu _, (fun h => by cases h), (fun _ => HYP.out)⟩
                    · obtain ⟨z, hz1, hz2⟩ := HVP.out (by omega)
                      have hki : (k : Int) - 1 = ((k - 1 : Nat) : Int) := by omega
                      have hk1 : 0 < k := by omega
                      have hwk : IntKind.i64.wrap ((k - 1 : Nat) : Int) = ((k - 1 : Nat) : Int) := by unfold IntKind.wrap; simp [IntKind.signed, IntKind.bits]; omega
                      have hkl : k - 1 < xv.length := by omega
                      have HS : Hid (∀ wq, Below yu.heap.size yu wq → (wq.cell? ⟨gu, 0, none⟩ = some (.int .i64 u.at_.wall) ∧ wq.cell? ⟨gu, 1, none⟩ = some (.int .i64 u.at_.tie) ∧ wq.cell? ⟨gu, 2, none⟩ = some (.bool true) ∧ wq.cell? ⟨gu, 3, none⟩ = some (.string u.data)) ∧ wq.cell? ⟨g, 1, none⟩ = some (.slice (some ⟨p1, q1, none⟩) xv.length cv) ∧ wq.cell? ⟨p1, q1 + (k - 1) * 4, none⟩ = some (.int .i64 z.at_.wall) ∧ wq.cell? ⟨p1, q1 + (k - 1) * 4 + 1, none⟩ = some (.int .i64 z.at_.tie)) := fun wq hq => by
                        have h4 := blk4 (ku.below hq ku.lt)
                        rw [hd] at h4
                        have hz := hz2 wq (hBwu.trans (hq.mono hBwu.size))
                        exact ⟨h4, (kzu.below hq kzu.lt).cell 1, hz.1, hz.2⟩
                      have LSz := Lib.hid (fun w => LS.out z.at_ u.at_ w)
                      generalize hl : lessF z.at_ u.at_ = bl at *
                      have R1 : Hid ((!bl) = true → ¬ verQ xv k u) := fun h hq => by have := hq.1 z (by omega) hz1; rw [hl] at this; rw [this] at h; cases h
                      have R2 : Hid ((!bl) = false → verQ xv k u) := fun h => ⟨fun z' _ h' => by rw [hz1] at h'; obtain rfl := Option.some.inj h'; rw [hl]; simpa using h, HD.out⟩
                      have p0 : Below yu.heap.size yu yu.drew := (Below.refl _ _).drew
                      clear hz1 hz2 hl hd
                      refine wp_region_held_drew (S := fun wq => (wq.cell? ⟨gu, 0, none⟩ = some (.int .i64 u.at_.wall) ∧ wq.cell? ⟨gu, 1, none⟩ = some (.int .i64 u.at_.tie) ∧ wq.cell? ⟨gu, 2, none⟩ = some (.bool true) ∧ wq.cell? ⟨gu, 3, none⟩ = some (.string u.data)) ∧ wq.cell? ⟨g, 1, none⟩ = some (.slice (some ⟨p1, q1, none⟩) xv.length cv) ∧ wq.cell? ⟨p1, q1 + (k - 1) * 4, none⟩ = some (.int .i64 z.at_.wall) ∧ wq.cell? ⟨p1, q1 + (k - 1) * 4 + 1, none⟩ = some (.int .i64 z.at_.tie)) (by kernel_rfl) ?s_0 (fun hHeld => ?_)
                      case s_0 => exact HS.out _ p0
                      refine tk 0 { dst := some 75, op := .fieldAddr 47 (.tmp 6) 1, type := 0, pos := "ref.go:18", after := #[], guard := none } _ ?_
                      try simp only [Act.put, List.setIfInBounds_toArray, List.set_cons_zero, List.set_cons_succ]
                      refine tk 1 { dst := some 76, op := .load 4 (.tmp 75), type := 4, pos := "ref.go:18", after := #[{ on := 0, ground := .data }], guard := none } _ ?_
                      try simp only [Act.put, List.setIfInBounds_toArray, List.set_cons_zero, List.set_cons_succ]
                      refine tk 2 { dst := some 77, op := .move (.tmp 76), type := 4, pos := "ref.go:18", after := #[{ on := 1, ground := .data }], guard := none } _ ?_
                      try simp only [Act.put, List.setIfInBounds_toArray, List.set_cons_zero, List.set_cons_succ]
                      refine tk 3 { dst := some 78, op := .fieldAddr 47 (.tmp 6) 2, type := 0, pos := "ref.go:18", after := #[{ on := 2, ground := .guard }], guard := some (2, true) } _ ?_
                      try simp only [Act.put, List.setIfInBounds_toArray, List.set_cons_zero, List.set_cons_succ]
                      refine tk 4 { dst := some 79, op := .load 9 (.tmp 78), type := 9, pos := "ref.go:18", after := #[{ on := 3, ground := .data }, { on := 2, ground := .guard }], guard := some (2, true) } _ ?_
                      try simp only [Act.put, List.setIfInBounds_toArray, List.set_cons_zero, List.set_cons_succ]
                      refine tk 5 { dst := some 80, op := .binOp .neq 9 (.tmp 79) (.const (.string { data := #[] })) 9, type := 4, pos := "ref.go:18", after := #[{ on := 4, ground := .data }, { on := 2, ground := .guard }], guard := some (2, true) } _ ?_
                      try simp only [Act.put, List.setIfInBounds_toArray, List.set_cons_zero, List.set_cons_succ]
                      refine tk 6 { dst := some 81, op := .pick (.tmp 77) (.tmp 80) (.const (.bool false)), type := 4, pos := "ref.go:18", after := #[{ on := 2, ground := .data }, { on := 5, ground := .data }], guard := none } _ ?_
                      try simp only [Act.put, List.setIfInBounds_toArray, List.set_cons_zero, List.set_cons_succ]
                      refine tk 7 { dst := some 82, op := .move (.tmp 81), type := 4, pos := "ref.go:18", after := #[{ on := 6, ground := .data }, { on := 2, ground := .chain }], guard := none } _ ?_
                      try simp only [Act.put, List.setIfInBounds_toArray, List.set_cons_zero, List.set_cons_succ]
                      refine tk 8 { dst := some 83, op := .move (.tmp 5), type := 3, pos := "ref.go:18", after := #[{ on := 7, ground := .guard }], guard := some (7, false) } _ ?_
                      try simp only [Act.put, List.setIfInBounds_toArray, List.set_cons_zero, List.set_cons_succ]
                      refine tk 9 { dst := some 84, op := .binOp .gtr 3 (.tmp 83) (.const (.int .i64 0)) 3, type := 4, pos := "ref.go:18", after := #[{ on := 8, ground := .data }, { on := 7, ground := .guard }], guard := some (7, false) } _ ?_
                      try simp only [Act.put, List.setIfInBounds_toArray, List.set_cons_zero, List.set_cons_succ]
                      refine tk 10 { dst := some 85, op := .move (.tmp 84), type := 4, pos := "ref.go:18", after := #[{ on := 9, ground := .data }, { on := 7, ground := .chain }, { on := 7, ground := .guard }], guard := some (7, false) } _ ?_
                      try simp only [Act.put, List.setIfInBounds_toArray, List.set_cons_zero, List.set_cons_succ]
                      refine tk 11 { dst := some 86, op := .fieldAddr 45 (.tmp 4) 1, type := 0, pos := "ref.go:18", after := #[{ on := 10, ground := .guard }], guard := some (10, true) } _ ?_
                      try simp only [Act.put, List.setIfInBounds_toArray, List.set_cons_zero, List.set_cons_succ]
                      refine tk 12 { dst := some 87, op := .load 43 (.tmp 86), type := 43, pos := "ref.go:18", after := #[{ on := 11, ground := .data }, { on := 10, ground := .guard }], guard := some (10, true) } _ ?_
                      try simp only [Act.put, List.setIfInBounds_toArray, List.set_cons_zero, List.set_cons_succ]
                      refine tk 13 { dst := some 88, op := .move (.tmp 5), type := 3, pos := "ref.go:18", after := #[{ on := 10, ground := .guard }], guard := some (10, true) } _ ?_
                      try simp only [Act.put, List.setIfInBounds_toArray, List.set_cons_zero, List.set_cons_succ]
                      refine tk 14 { dst := some 89, op := .binOp .sub 3 (.tmp 88) (.const (.int .i64 1)) 3, type := 3, pos := "ref.go:18", after := #[{ on := 13, ground := .data }, { on := 10, ground := .guard }], guard := some (10, true) } _ ?_
                      try simp only [Act.put, List.setIfInBounds_toArray, List.set_cons_zero, List.set_cons_succ]
                      refine tk 15 { dst := some 90, op := .indexAddr 43 (.tmp 87) (.tmp 89), type := 0, pos := "ref.go:18", after := #[{ on := 12, ground := .data }, { on := 14, ground := .data }, { on := 10, ground := .guard }], guard := some (10, true) } _ ?_
                      try simp only [Act.put, List.setIfInBounds_toArray, List.set_cons_zero, List.set_cons_succ]
                      refine tk 16 { dst := some 91, op := .fieldAddr 47 (.tmp 90) 0, type := 0, pos := "ref.go:18", after := #[{ on := 15, ground := .data }, { on := 10, ground := .guard }], guard := some (10, true) } _ ?_
                      try simp only [Act.put, List.setIfInBounds_toArray, List.set_cons_zero, List.set_cons_succ]
                      refine tk 17 { dst := some 92, op := .load 24 (.tmp 91), type := 24, pos := "ref.go:18", after := #[{ on := 16, ground := .data }, { on := 10, ground := .guard }], guard := some (10, true) } _ ?_
                      try simp only [Act.put, List.setIfInBounds_toArray, List.set_cons_zero, List.set_cons_succ]
                      refine tk 18 { dst := some 93, op := .fieldAddr 47 (.tmp 6) 0, type := 0, pos := "ref.go:18", after := #[{ on := 10, ground := .guard }], guard := some (10, true) } _ ?_
                      try simp only [Act.put, List.setIfInBounds_toArray, List.set_cons_zero, List.set_cons_succ]
                      refine tk 19 { dst := some 94, op := .load 24 (.tmp 93), type := 24, pos := "ref.go:18", after := #[{ on := 18, ground := .data }, { on := 10, ground := .guard }], guard := some (10, true) } _ ?_
                      try simp only [Act.put, List.setIfInBounds_toArray, List.set_cons_zero, List.set_cons_succ]
                      refine wpAnyH_ready (rs := [20]) (by kernel_rfl) (by simp) ?_
                      refine AllReadyH.cons (o := { dst := some 95, op := .call { callee := .value (.func 21), args := #[.tmp 92, .tmp 94], argTypes := #[24, 24] }, type := 4, pos := "ref.go:18", after := #[{ on := 17, ground := .data }, { on := 19, ground := .data }, { on := 10, ground := .chain }, { on := 10, ground := .guard }], guard := some (10, true) }) rfl (fun KQ hKQ => ?_) AllReadyH.nil
                      go_simp
                      refine (LSz.out _).mono ?_
                      rintro e z1 ⟨rfl, hZ1⟩
                      have p1 := p0.trans (hZ1.mono p0.size)
                      have r1 := HS.out _ p1
                      go_wp2_with fail
                      refine hKQ.out _ _ ?s_20 (fun hHeld20 => ?_)
                      case s_20 => exact r1
                      clear hKQ KQ
                      try simp only [Act.put, List.setIfInBounds_toArray, List.set_cons_zero, List.set_cons_succ]
                      refine tk 21 { dst := some 96, op := .unOp .not 4 (.tmp 95), type := 4, pos := "ref.go:18", after := #[{ on := 20, ground := .data }, { on := 10, ground := .guard }], guard := some (10, true) } _ ?_
                      try simp only [Act.put, List.setIfInBounds_toArray, List.set_cons_zero, List.set_cons_succ]
                      refine tk 22 { dst := some 97, op := .pick (.tmp 85) (.tmp 96) (.const (.bool false)), type := 4, pos := "ref.go:18", after := #[{ on := 10, ground := .data }, { on := 21, ground := .data }, { on := 7, ground := .guard }], guard := some (7, false) } _ ?_
                      try simp only [Act.put, List.setIfInBounds_toArray, List.set_cons_zero, List.set_cons_succ]
                      refine tk 23 { dst := some 98, op := .pick (.tmp 82) (.const (.bool true)) (.tmp 97), type := 4, pos := "ref.go:18", after := #[{ on := 7, ground := .data }, { on := 22, ground := .data }], guard := none } _ ?_
                      try simp only [Act.put, List.setIfInBounds_toArray, List.set_cons_zero, List.set_cons_succ]
                      refine wpAnyH_done (by kernel_rfl) ?_ _
                      go_wp2_with fail
                      go_meet
                      case rel => exact ⟨!bl, rfl, p1, R1, R2⟩
                  · have HNP : Hid (¬ verQ xv k u) := fun h => ht (h.2 hd)
                    have hte : u.data.toList.isEmpty = false := by rw [no_text]; exact decide_eq_false ht
                    rw [hd] at u2
                    clear ht hd
                    clear HVM HVN HMORE HNOT HF HR NL
                    go_quiet (fail)
                    go_wp2_with fail
                    go_meet
                    case rel => exact ⟨true, rfl, below_drewN pu _, (fun _ => HNP.out), (fun h => by cases h)⟩
                · have hd' : u.drop = false := by simpa using hd
                  have HD : Hid (u.drop = true → u.data = noText) := fun h => absurd h hd
                  rw [hd'] at u2
                  clear hd
                  by_cases h0 : k = 0
                  · have HYP : Hid (verQ xv k u) := ⟨fun z h => absurd h (by omega), HD.out⟩
                    have hkd : decide (0 < k) = false := decide_eq_false (by omega)
                    clear h0 hd'
                    clear HVM HVN HMORE HNOT HF HR NL
                    go_quiet (fail)
                    go_wp2_with fail
                    go_meet
                    case rel => exact ⟨false, rfl, below_drewN pu _, (fun h => by cases h), (fun _ => HYP.out)⟩
                  · obtain ⟨z, hz1, hz2⟩ := HVP.out (by omega)
                    have hki : (k : Int) - 1 = ((k - 1 : Nat) : Int) := by omega
                    have hk1 : 0 < k := by omega
                    have hwk : IntKind.i64.wrap ((k - 1 : Nat) : Int) = ((k - 1 : Nat) : Int) := by unfold IntKind.wrap; simp [IntKind.signed, IntKind.bits]; omega
                    have hkl : k - 1 < xv.length := by omega
                    have HS : Hid (∀ wq, Below yu.heap.size yu wq → (wq.cell? ⟨gu, 0, none⟩ = some (.int .i64 u.at_.wall) ∧ wq.cell? ⟨gu, 1, none⟩ = some (.int .i64 u.at_.tie) ∧ wq.cell? ⟨gu, 2, none⟩ = some (.bool false) ∧ wq.cell? ⟨gu, 3, none⟩ = some (.string u.data)) ∧ wq.cell? ⟨g, 1, none⟩ = some (.slice (some ⟨p1, q1, none⟩) xv.length cv) ∧ wq.cell? ⟨p1, q1 + (k - 1) * 4, none⟩ = some (.int .i64 z.at_.wall) ∧ wq.cell? ⟨p1, q1 + (k - 1) * 4 + 1, none⟩ = some (.int .i64 z.at_.tie)) := fun wq hq => by
                      have h4 := blk4 (ku.below hq ku.lt)
                      rw [hd'] at h4
                      have hz := hz2 wq (hBwu.trans (hq.mono hBwu.size))
                      exact ⟨h4, (kzu.below hq kzu.lt).cell 1, hz.1, hz.2⟩
                    have LSz := Lib.hid (fun w => LS.out z.at_ u.at_ w)
                    generalize hl : lessF z.at_ u.at_ = bl at *
                    have R1 : Hid ((!bl) = true → ¬ verQ xv k u) := fun h hq => by have := hq.1 z (by omega) hz1; rw [hl] at this; rw [this] at h; cases h
                    have R2 : Hid ((!bl) = false → verQ xv k u) := fun h => ⟨fun z' _ h' => by rw [hz1] at h'; obtain rfl := Option.some.inj h'; rw [hl]; simpa using h, HD.out⟩
                    have p0 : Below yu.heap.size yu yu.drew := (Below.refl _ _).drew
                    clear hz1 hz2 hl hd'
                    refine wp_region_held_drew (S := fun wq => (wq.cell? ⟨gu, 0, none⟩ = some (.int .i64 u.at_.wall) ∧ wq.cell? ⟨gu, 1, none⟩ = some (.int .i64 u.at_.tie) ∧ wq.cell? ⟨gu, 2, none⟩ = some (.bool false) ∧ wq.cell? ⟨gu, 3, none⟩ = some (.string u.data)) ∧ wq.cell? ⟨g, 1, none⟩ = some (.slice (some ⟨p1, q1, none⟩) xv.length cv) ∧ wq.cell? ⟨p1, q1 + (k - 1) * 4, none⟩ = some (.int .i64 z.at_.wall) ∧ wq.cell? ⟨p1, q1 + (k - 1) * 4 + 1, none⟩ = some (.int .i64 z.at_.tie)) (by kernel_rfl) ?s_0 (fun hHeld => ?_)
                    case s_0 => exact HS.out _ p0
                    refine tk 0 { dst := some 75, op := .fieldAddr 47 (.tmp 6) 1, type := 0, pos := "ref.go:18", after := #[], guard := none } _ ?_
                    try simp only [Act.put, List.setIfInBounds_toArray, List.set_cons_zero, List.set_cons_succ]
                    refine tk 1 { dst := some 76, op := .load 4 (.tmp 75), type := 4, pos := "ref.go:18", after := #[{ on := 0, ground := .data }], guard := none } _ ?_
                    try simp only [Act.put, List.setIfInBounds_toArray, List.set_cons_zero, List.set_cons_succ]
                    refine tk 2 { dst := some 77, op := .move (.tmp 76), type := 4, pos := "ref.go:18", after := #[{ on := 1, ground := .data }], guard := none } _ ?_
                    try simp only [Act.put, List.setIfInBounds_toArray, List.set_cons_zero, List.set_cons_succ]
                    refine tu 3 { dst := some 78, op := .fieldAddr 47 (.tmp 6) 2, type := 0, pos := "ref.go:18", after := #[{ on := 2, ground := .guard }], guard := some (2, true) } ?_
                    try simp only [Act.put, List.setIfInBounds_toArray, List.set_cons_zero, List.set_cons_succ]
                    refine tu 4 { dst := some 79, op := .load 9 (.tmp 78), type := 9, pos := "ref.go:18", after := #[{ on := 3, ground := .data }, { on := 2, ground := .guard }], guard := some (2, true) } ?_
                    try simp only [Act.put, List.setIfInBounds_toArray, List.set_cons_zero, List.set_cons_succ]
                    refine tu 5 { dst := some 80, op := .binOp .neq 9 (.tmp 79) (.const (.string { data := #[] })) 9, type := 4, pos := "ref.go:18", after := #[{ on := 4, ground := .data }, { on := 2, ground := .guard }], guard := some (2, true) } ?_
                    try simp only [Act.put, List.setIfInBounds_toArray, List.set_cons_zero, List.set_cons_succ]
                    refine tk 6 { dst := some 81, op := .pick (.tmp 77) (.tmp 80) (.const (.bool false)), type := 4, pos := "ref.go:18", after := #[{ on := 2, ground := .data }, { on := 5, ground := .data }], guard := none } _ ?_
                    try simp only [Act.put, List.setIfInBounds_toArray, List.set_cons_zero, List.set_cons_succ]
                    refine tk 7 { dst := some 82, op := .move (.tmp 81), type := 4, pos := "ref.go:18", after := #[{ on := 6, ground := .data }, { on := 2, ground := .chain }], guard := none } _ ?_
                    try simp only [Act.put, List.setIfInBounds_toArray, List.set_cons_zero, List.set_cons_succ]
                    refine tk 8 { dst := some 83, op := .move (.tmp 5), type := 3, pos := "ref.go:18", after := #[{ on := 7, ground := .guard }], guard := some (7, false) } _ ?_
                    try simp only [Act.put, List.setIfInBounds_toArray, List.set_cons_zero, List.set_cons_succ]
                    refine tk 9 { dst := some 84, op := .binOp .gtr 3 (.tmp 83) (.const (.int .i64 0)) 3, type := 4, pos := "ref.go:18", after := #[{ on := 8, ground := .data }, { on := 7, ground := .guard }], guard := some (7, false) } _ ?_
                    try simp only [Act.put, List.setIfInBounds_toArray, List.set_cons_zero, List.set_cons_succ]
                    refine tk 10 { dst := some 85, op := .move (.tmp 84), type := 4, pos := "ref.go:18", after := #[{ on := 9, ground := .data }, { on := 7, ground := .chain }, { on := 7, ground := .guard }], guard := some (7, false) } _ ?_
                    try simp only [Act.put, List.setIfInBounds_toArray, List.set_cons_zero, List.set_cons_succ]
                    refine tk 11 { dst := some 86, op := .fieldAddr 45 (.tmp 4) 1, type := 0, pos := "ref.go:18", after := #[{ on := 10, ground := .guard }], guard := some (10, true) } _ ?_
                    try simp only [Act.put, List.setIfInBounds_toArray, List.set_cons_zero, List.set_cons_succ]
                    refine tk 12 { dst := some 87, op := .load 43 (.tmp 86), type := 43, pos := "ref.go:18", after := #[{ on := 11, ground := .data }, { on := 10, ground := .guard }], guard := some (10, true) } _ ?_
                    try simp only [Act.put, List.setIfInBounds_toArray, List.set_cons_zero, List.set_cons_succ]
                    refine tk 13 { dst := some 88, op := .move (.tmp 5), type := 3, pos := "ref.go:18", after := #[{ on := 10, ground := .guard }], guard := some (10, true) } _ ?_
                    try simp only [Act.put, List.setIfInBounds_toArray, List.set_cons_zero, List.set_cons_succ]
                    refine tk 14 { dst := some 89, op := .binOp .sub 3 (.tmp 88) (.const (.int .i64 1)) 3, type := 3, pos := "ref.go:18", after := #[{ on := 13, ground := .data }, { on := 10, ground := .guard }], guard := some (10, true) } _ ?_
                    try simp only [Act.put, List.setIfInBounds_toArray, List.set_cons_zero, List.set_cons_succ]
                    refine tk 15 { dst := some 90, op := .indexAddr 43 (.tmp 87) (.tmp 89), type := 0, pos := "ref.go:18", after := #[{ on := 12, ground := .data }, { on := 14, ground := .data }, { on := 10, ground := .guard }], guard := some (10, true) } _ ?_
                    try simp only [Act.put, List.setIfInBounds_toArray, List.set_cons_zero, List.set_cons_succ]
                    refine tk 16 { dst := some 91, op := .fieldAddr 47 (.tmp 90) 0, type := 0, pos := "ref.go:18", after := #[{ on := 15, ground := .data }, { on := 10, ground := .guard }], guard := some (10, true) } _ ?_
                    try simp only [Act.put, List.setIfInBounds_toArray, List.set_cons_zero, List.set_cons_succ]
                    refine tk 17 { dst := some 92, op := .load 24 (.tmp 91), type := 24, pos := "ref.go:18", after := #[{ on := 16, ground := .data }, { on := 10, ground := .guard }], guard := some (10, true) } _ ?_
                    try simp only [Act.put, List.setIfInBounds_toArray, List.set_cons_zero, List.set_cons_succ]
                    refine tk 18 { dst := some 93, op := .fieldAddr 47 (.tmp 6) 0, type := 0, pos := "ref.go:18", after := #[{ on := 10, ground := .guard }], guard := some (10, true) } _ ?_
                    try simp only [Act.put, List.setIfInBounds_toArray, List.set_cons_zero, List.set_cons_succ]
                    refine tk 19 { dst := some 94, op := .load 24 (.tmp 93), type := 24, pos := "ref.go:18", after := #[{ on := 18, ground := .data }, { on := 10, ground := .guard }], guard := some (10, true) } _ ?_
                    try simp only [Act.put, List.setIfInBounds_toArray, List.set_cons_zero, List.set_cons_succ]
                    refine wpAnyH_ready (rs := [20]) (by kernel_rfl) (by simp) ?_
                    refine AllReadyH.cons (o := { dst := some 95, op := .call { callee := .value (.func 21), args := #[.tmp 92, .tmp 94], argTypes := #[24, 24] }, type := 4, pos := "ref.go:18", after := #[{ on := 17, ground := .data }, { on := 19, ground := .data }, { on := 10, ground := .chain }, { on := 10, ground := .guard }], guard := some (10, true) }) rfl (fun KQ hKQ => ?_) AllReadyH.nil
                    go_simp
                    refine (LSz.out _).mono ?_
                    rintro e z1 ⟨rfl, hZ1⟩
                    have p1 := p0.trans (hZ1.mono p0.size)
                    have r1 := HS.out _ p1
                    go_wp2_with fail
                    refine hKQ.out _ _ ?s_20 (fun hHeld20 => ?_)
                    case s_20 => exact r1
                    clear hKQ KQ
                    try simp only [Act.put, List.setIfInBounds_toArray, List.set_cons_zero, List.set_cons_succ]
                    refine tk 21 { dst := some 96, op := .unOp .not 4 (.tmp 95), type := 4, pos := "ref.go:18", after := #[{ on := 20, ground := .data }, { on := 10, ground := .guard }], guard := some (10, true) } _ ?_
                    try simp only [Act.put, List.setIfInBounds_toArray, List.set_cons_zero, List.set_cons_succ]
                    refine tk 22 { dst := some 97, op := .pick (.tmp 85) (.tmp 96) (.const (.bool false)), type := 4, pos := "ref.go:18", after := #[{ on := 10, ground := .data }, { on := 21, ground := .data }, { on := 7, ground := .guard }], guard := some (7, false) } _ ?_
                    try simp only [Act.put, List.setIfInBounds_toArray, List.set_cons_zero, List.set_cons_succ]
                    refine tk 23 { dst := some 98, op := .pick (.tmp 82) (.const (.bool true)) (.tmp 97), type := 4, pos := "ref.go:18", after := #[{ on := 7, ground := .data }, { on := 22, ground := .data }], guard := none } _ ?_
                    try simp only [Act.put, List.setIfInBounds_toArray, List.set_cons_zero, List.set_cons_succ]
                    refine wpAnyH_done (by kernel_rfl) ?_ _
                    go_wp2_with fail
                    go_meet
                    case rel => exact ⟨!bl, rfl, p1, R1, R2⟩
              case rest =>
                obtain ⟨bb, rfl, hBc2, S1, S2⟩ := hcut
                rcases bb with _ | _
                · have HT2 := Lib.hid (HVM.out (S2.out rfl))
                  have hBf := hBu.trans (hBc2.out.mono hBu.size)
                  clear S1 S2 hBc2 u0 u1 u2 u3 c1
                  go_wp2_with fail
                  go_roundw
                  case rel => exact ⟨k + 1, by omega, by go_num, HT2, hBf⟩
                  case measure => simp [intOf]; omega
                · have HN := Lib.hid (HNOT.out (.inr (HVN.out (S1.out rfl))))
                  have hBf := hBwu.trans (hBc2.out.mono hBwu.size)
                  clear S1 S2 hBc2 u0 u1 u2 u3 c1
                  go_wp2_with fail
                  go_ret
                  exact ⟨false, rfl, ⟨(fun h => by cases h), (fun h => absurd h HN.out)⟩, hBf⟩
            · obtain rfl : k = xv.length := by omega
              have hV := hTk.out
              rw [List.take_length] at hV
              have HT2 := Lib.hid (HMORE.out HHP.out hV)
              clear hV hTk
              go_wp2_with fail
              go_roundw
              case rel => exact ⟨j + 1, by omega, by go_num, HT2, hBwz⟩
              case measure => simp [intOf]; omega
        · have HN := Lib.hid (HNOT.out (.inl (R1.out rfl)))
          clear R1 R2
          go_wp2_with fail
          go_ret
          exact ⟨false, rfl, ⟨(fun h => by cases h), (fun h => absurd h HN.out)⟩, hBw⟩
    · obtain rfl : j = cs.length := by omega
      have hOK := hT.out
      rw [List.take_length] at hOK
      have HOK := Lib.hid hOK
      clear hOK hT
      go_wp2_with fail
      go_ret
      exact ⟨true, rfl, ⟨fun _ => HOK.out, fun _ => rfl⟩, hBr⟩
end Go.Proofs.Ytlkhmpfdajefiaa.ref8
