/- ZoneSurvives answers true: what a configuration survives, and what it does not. Condition: the library's table reads as its text lays it. -/
import Derived.Test.YtfcljdpjjabhjaaDoorBegun11
import Derived.Test.YtfcljdpjjabhjaaDoorRef11c
namespace Go.Proofs.YtfcljdpjjabhjaaDoor.law11
open Go Go.RowKit Go.Proofs.YtfcljdpjjabhjaaDoor.kit Go.Proofs.YtfcljdpjjabhjaaDoor.nums Go.Proofs.YtfcljdpjjabhjaaDoor.se Go.Proofs.YtfcljdpjjabhjaaDoor.cf Go.Proofs.YtfcljdpjjabhjaaDoor.zn Go.Proofs.YtfcljdpjjabhjaaDoor.ref9 Go.Proofs.YtfcljdpjjabhjaaDoor.zoni
set_option linter.unusedVariables false

set_option maxHeartbeats 2000000 in
theorem surv_walk (A : Option Addr) (n cp : Nat) (rs : List Int) (c : CfL) (what : Int) (w : World) (hT : TabW w) (hR : RdV w w.heap.size A n (i64s rs)) (hc : c.ok) :
    Calls Tryd.prog 4 #[.slice A n cp, cfV c, .int .i64 what] w fun e w' => e = .returned (.bool true) ∧ Below w.heap.size w w' := by
  have CB := Lib.hid (fun y (hb : Below w.heap.size w y) => begun_any y (hT.on hb))
  have C1 := Lib.hid (fun y (hb : Below w.heap.size w y) (hn : n ≤ 1099511627776) => zoni.surv_any A n cp rs c what y y.heap.size (hR.on hb hb.size) (Nat.le_refl _) hn hc)
  have C2 := Lib.hid (fun y (hb : Below w.heap.size w y) (hn : n ≤ 1099511627776) => ref11.surv_any A n cp rs c what y y.heap.size (hR.on hb hb.size) (Nat.le_refl _) hn hc)
  clear hT hR hc
  generalize survF rs c what = sv at *
  obtain ⟨s1, s2⟩ := sv
  dsimp only at *
  unfold cfV at *
  obtain ⟨cv, cw, cl, ce, ck⟩ := c
  dsimp only at *
  have k0 : Blk 30 (w.alloc (.cells #[.int .u16 (cv : Int), .int .u16 (cw : Int), .int .u16 (cl : Int), .int .i64 ce, .int .i64 ck] 30)) w.heap.size [.int .u16 (cv : Int), .int .u16 (cw : Int), .int .u16 (cl : Int), .int .i64 ce, .int .i64 ck] := heap_alloc_new w _
  have HB := Lib.hid ((Below.refl w.heap.size w).alloc (Nat.le_refl _) (.cells #[.int .u16 (cv : Int), .int .u16 (cw : Int), .int .u16 (cl : Int), .int .i64 ce, .int .i64 ck] 30))
  have HS : Hid (∀ wq, Below (w.alloc (.cells #[.int .u16 (cv : Int), .int .u16 (cw : Int), .int .u16 (cl : Int), .int .i64 ce, .int .i64 ck] 30)).heap.size (w.alloc (.cells #[.int .u16 (cv : Int), .int .u16 (cw : Int), .int .u16 (cl : Int), .int .i64 ce, .int .i64 ck] 30)) wq → (wq.cell? ⟨w.heap.size, 0, none⟩ = some (.int .u16 (cv : Int)) ∧ wq.cell? ⟨w.heap.size, 1, none⟩ = some (.int .u16 (cw : Int)) ∧ wq.cell? ⟨w.heap.size, 2, none⟩ = some (.int .u16 (cl : Int)) ∧ wq.cell? ⟨w.heap.size, 3, none⟩ = some (.int .i64 ce) ∧ wq.cell? ⟨w.heap.size, 4, none⟩ = some (.int .i64 ck))) := fun wq hq => blk5 (k0.below hq k0.lt)
  have q0 := Below.refl (w.alloc (.cells #[.int .u16 (cv : Int), .int .u16 (cw : Int), .int .u16 (cl : Int), .int .i64 ce, .int .i64 ck] 30)).heap.size (w.alloc (.cells #[.int .u16 (cv : Int), .int .u16 (cw : Int), .int .u16 (cl : Int), .int .i64 ce, .int .i64 ck] 30))
  clear k0
  go_enter Tryd.func4, Tryd.ntmps4
  go_upto_region 1 with (fail)
  generalize (w.alloc (.cells #[.int .u16 (cv : Int), .int .u16 (cw : Int), .int .u16 (cl : Int), .int .i64 ce, .int .i64 ck] 30)) = w1 at *
  go_wp2_with fail
  refine (CB.out _ HB.out).mono ?_
  rintro e y1 ⟨rfl, hY1⟩
  have q1 := q0.trans (hY1.mono q0.size)
  have r1 := HS.out _ q1
  by_cases hn : n ≤ 30
  · have hn2 : n ≤ 1099511627776 := by omega
    have c1 := Lib.hid (fun y hb => C1.out y hb hn2)
    have c2 := Lib.hid (fun y hb => C2.out y hb hn2)
    clear C1 C2 hn2
    go_wp2_with fail
    refine (c1.out _ (HB.out.trans (q1.mono HB.out.size))).mono ?_
    rintro e y2 ⟨rfl, hY2⟩
    have q2 := q1.trans (hY2.mono q1.size)
    have r2 := HS.out _ q2
    go_wp2_with fail
    refine (c2.out _ (HB.out.trans (q2.mono HB.out.size))).mono ?_
    rintro e y3 ⟨rfl, hY3⟩
    have q3 := q2.trans (hY3.mono q2.size)
    go_wp2_with fail
    go_ret
    exact ⟨ret_bool (by simp), HB.out.trans (q3.mono HB.out.size)⟩
  · go_wp2_with fail
    go_ret
    exact ⟨rfl, HB.out.trans (q1.mono HB.out.size)⟩
theorem surv_row (A : Option Addr) (n cp : Nat) (rs : List Int) (c : CfL) (what : Int) (w : World) (hR : RdV w w.heap.size A n (i64s rs)) (_ : IntL rs) (_ : n ≤ cp) (_ : cp ≤ maxLen) (hc : c.ok) (_ : (Lit.int .i64 what).wf = true) (hT : TabW w) :
    Calls Tryd.prog 4 #[.slice A n cp, cfV c, .int .i64 what] w fun e w' => e = .returned (.bool true) ∧ Below w.heap.size w w' := surv_walk A n cp rs c what w hT hR hc
end Go.Proofs.YtfcljdpjjabhjaaDoor.law11
