/- What the landed conf tells of joints. Conditions: sets are uint16 values, numbers int. -/
import Derived.Test.YtegnfkbmlalkeaaGreatSpConfI
import Derived.Test.YtegnfkbmlalkeaaGreatSpJ0
set_option linter.unusedVariables false
set_option maxHeartbeats 16000000
set_option maxRecDepth 10000
namespace Go.Proofs.YtegnfkbmlalkeaaGreat.confi
open Go Go.RowKit kit nums se cf
set_option maxRecDepth 10000
theorem each1_any (j : JtL) (g : FuncId) (v : Value) (P : CfL → Bool) (I : World → Prop) (w : World) (hg : ∀ (args : Array Value) (w : World), (callFunc g args).run Tryz.prog w = .ok (.enter g args) w)
  (hK : ∀ w w', I w → Below w.heap.size w w' → I w')
  (hCa : ∀ w, I w → Calls Tryz.prog g #[cfV j.a, v] w fun e w' => e = .returned (.bool (P j.a)) ∧ Below w.heap.size w w')
  (hCb : ∀ w, j.two = true → I w → Calls Tryz.prog g #[cfV j.b, v] w fun e w' => e = .returned (.bool (P j.b)) ∧ Below w.heap.size w w') (h0 : I w) :
  Calls Tryz.prog 155 #[jtV j, .func (.func g) #[] #[v]] w fun e w' => e = .returned (.bool (bothJ j P)) ∧ Below w.heap.size w w' := by
 have HA := Lh hCa
 have HBC := Lh hCb
 have HK := Lh hK
 have HI := Lh h0
 clear hCa hCb hK h0
 unfold bothJ
 generalize P j.a = pa at *
 generalize P j.b = pb at *
 unfold jtV cfV at *
 obtain ⟨⟨av, aw, al, ae, ak⟩, ⟨bv, bw, bl, be, bk⟩, t⟩ := j
 dsimp only at *
 have k0 : Blk 27 (w.alloc (.cells #[.int .u16 (av : Int), .int .u16 (aw : Int), .int .u16 (al : Int), .int .i64 ae, .int .i64 ak, .int .u16 (bv : Int), .int .u16 (bw : Int), .int .u16 (bl : Int), .int .i64 be, .int .i64 bk, .bool t] 27)) w.heap.size [.int .u16 (av : Int), .int .u16 (aw : Int), .int .u16 (al : Int), .int .i64 ae, .int .i64 ak, .int .u16 (bv : Int), .int .u16 (bw : Int), .int .u16 (bl : Int), .int .i64 be, .int .i64 bk, .bool t] := heap_alloc_new w _
 have HB := Lh ((Below.refl w.heap.size w).alloc (Nat.le_refl _) (.cells #[.int .u16 (av : Int), .int .u16 (aw : Int), .int .u16 (al : Int), .int .i64 ae, .int .i64 ak, .int .u16 (bv : Int), .int .u16 (bw : Int), .int .u16 (bl : Int), .int .i64 be, .int .i64 bk, .bool t] 27))
 have HS : Hid (∀ wq, Below (w.alloc (.cells #[.int .u16 (av : Int), .int .u16 (aw : Int), .int .u16 (al : Int), .int .i64 ae, .int .i64 ak, .int .u16 (bv : Int), .int .u16 (bw : Int), .int .u16 (bl : Int), .int .i64 be, .int .i64 bk, .bool t] 27)).heap.size (w.alloc (.cells #[.int .u16 (av : Int), .int .u16 (aw : Int), .int .u16 (al : Int), .int .i64 ae, .int .i64 ak, .int .u16 (bv : Int), .int .u16 (bw : Int), .int .u16 (bl : Int), .int .i64 be, .int .i64 bk, .bool t] 27)) wq → (wq.cell? ⟨w.heap.size, 0, none⟩ = some (.int .u16 (av : Int)) ∧ wq.cell? ⟨w.heap.size, 1, none⟩ = some (.int .u16 (aw : Int)) ∧ wq.cell? ⟨w.heap.size, 2, none⟩ = some (.int .u16 (al : Int)) ∧ wq.cell? ⟨w.heap.size, 3, none⟩ = some (.int .i64 ae) ∧ wq.cell? ⟨w.heap.size, 4, none⟩ = some (.int .i64 ak) ∧ wq.cell? ⟨w.heap.size, 5, none⟩ = some (.int .u16 (bv : Int)) ∧ wq.cell? ⟨w.heap.size, 6, none⟩ = some (.int .u16 (bw : Int)) ∧ wq.cell? ⟨w.heap.size, 7, none⟩ = some (.int .u16 (bl : Int)) ∧ wq.cell? ⟨w.heap.size, 8, none⟩ = some (.int .i64 be) ∧ wq.cell? ⟨w.heap.size, 9, none⟩ = some (.int .i64 bk) ∧ wq.cell? ⟨w.heap.size, 10, none⟩ = some (.bool t))) := fun wq hq => blk11 (k0.below hq k0.lt)
 have q0 := Below.refl (w.alloc (.cells #[.int .u16 (av : Int), .int .u16 (aw : Int), .int .u16 (al : Int), .int .i64 ae, .int .i64 ak, .int .u16 (bv : Int), .int .u16 (bw : Int), .int .u16 (bl : Int), .int .i64 be, .int .i64 bk, .bool t] 27)).heap.size (w.alloc (.cells #[.int .u16 (av : Int), .int .u16 (aw : Int), .int .u16 (al : Int), .int .i64 ae, .int .i64 ak, .int .u16 (bv : Int), .int .u16 (bw : Int), .int .u16 (bl : Int), .int .i64 be, .int .i64 bk, .bool t] 27))
 clear k0
 have HI1 := Lh (HK.out _ _ HI.out HB.out)
 go_enter Tryz.func155, Tryz.ntmps155
 go_upto_region 1 with (fail)
 generalize (w.alloc (.cells #[.int .u16 (av : Int), .int .u16 (aw : Int), .int .u16 (al : Int), .int .i64 ae, .int .i64 ak, .int .u16 (bv : Int), .int .u16 (bw : Int), .int .u16 (bl : Int), .int .i64 be, .int .i64 bk, .bool t] 27)) = w1 at *
 have r0 := HS.out _ q0
 cases pa
 ·
  go_wp2_with (rw [hg])
  refine (HA.out _ HI1.out).mono ?_
  rintro e y1 ⟨rfl, hY1⟩
  have q1 := q0.trans (hY1.mono q0.size)
  have r1 := HS.out _ q1
  have HI2 := Lh (HK.out _ _ HI1.out hY1)
  go_wp2_with fail
  go_ret
  exact ⟨ref9.ret_bool (by simp), HB.out.trans (q1.mono HB.out.size)⟩
 ·
  cases t
  ·
   go_wp2_with (rw [hg])
   refine (HA.out _ HI1.out).mono ?_
   rintro e y1 ⟨rfl, hY1⟩
   have q1 := q0.trans (hY1.mono q0.size)
   have r1 := HS.out _ q1
   have HI2 := Lh (HK.out _ _ HI1.out hY1)
   go_wp2_with fail
   go_ret
   exact ⟨ref9.ret_bool (by simp), HB.out.trans (q1.mono HB.out.size)⟩
  ·
   go_wp2_with (rw [hg])
   refine (HA.out _ HI1.out).mono ?_
   rintro e y1 ⟨rfl, hY1⟩
   have q1 := q0.trans (hY1.mono q0.size)
   have r1 := HS.out _ q1
   have HI2 := Lh (HK.out _ _ HI1.out hY1)
   go_wp2_with (rw [hg])
   refine (HBC.out _ (by simp) HI2.out).mono ?_
   rintro e y2 ⟨rfl, hY2⟩
   have q2 := q1.trans (hY2.mono q1.size)
   go_wp2_with fail
   go_ret
   exact ⟨ref9.ret_bool (by simp), HB.out.trans (q2.mono HB.out.size)⟩
theorem union_any (j : JtL) (g : FuncId) (f : CfL → Nat) (w : World) (hg : ∀ (args : Array Value) (w : World), (callFunc g args).run Tryz.prog w = .ok (.enter g args) w) (la : f j.a < 65536) (lb : f j.b < 65536)
  (hCa : ∀ w, Calls Tryz.prog g #[cfV j.a] w fun e w' => e = .returned (.int .u16 ((f j.a : Nat) : Int)) ∧ Below w.heap.size w w')
  (hCb : ∀ w, j.two = true → Calls Tryz.prog g #[cfV j.b] w fun e w' => e = .returned (.int .u16 ((f j.b : Nat) : Int)) ∧ Below w.heap.size w w') :
  Calls Tryz.prog 115 #[jtV j, .func (.func g) #[] #[]] w fun e w' => e = .returned (.int .u16 ((unF j f : Nat) : Int)) ∧ Below w.heap.size w w' := by
 have HA := Lh hCa
 have HBC := Lh hCb
 have HO := bits_or_u16_nat (f j.a) (f j.b) la lb
 clear hCa hCb
 unfold unF
 generalize f j.a = pa at *
 generalize f j.b = pb at *
 unfold jtV cfV at *
 obtain ⟨⟨av, aw, al, ae, ak⟩, ⟨bv, bw, bl, be, bk⟩, t⟩ := j
 dsimp only at *
 have k0 : Blk 27 (w.alloc (.cells #[.int .u16 (av : Int), .int .u16 (aw : Int), .int .u16 (al : Int), .int .i64 ae, .int .i64 ak, .int .u16 (bv : Int), .int .u16 (bw : Int), .int .u16 (bl : Int), .int .i64 be, .int .i64 bk, .bool t] 27)) w.heap.size [.int .u16 (av : Int), .int .u16 (aw : Int), .int .u16 (al : Int), .int .i64 ae, .int .i64 ak, .int .u16 (bv : Int), .int .u16 (bw : Int), .int .u16 (bl : Int), .int .i64 be, .int .i64 bk, .bool t] := heap_alloc_new w _
 have HB := Lh ((Below.refl w.heap.size w).alloc (Nat.le_refl _) (.cells #[.int .u16 (av : Int), .int .u16 (aw : Int), .int .u16 (al : Int), .int .i64 ae, .int .i64 ak, .int .u16 (bv : Int), .int .u16 (bw : Int), .int .u16 (bl : Int), .int .i64 be, .int .i64 bk, .bool t] 27))
 have HS : Hid (∀ wq, Below (w.alloc (.cells #[.int .u16 (av : Int), .int .u16 (aw : Int), .int .u16 (al : Int), .int .i64 ae, .int .i64 ak, .int .u16 (bv : Int), .int .u16 (bw : Int), .int .u16 (bl : Int), .int .i64 be, .int .i64 bk, .bool t] 27)).heap.size (w.alloc (.cells #[.int .u16 (av : Int), .int .u16 (aw : Int), .int .u16 (al : Int), .int .i64 ae, .int .i64 ak, .int .u16 (bv : Int), .int .u16 (bw : Int), .int .u16 (bl : Int), .int .i64 be, .int .i64 bk, .bool t] 27)) wq → (wq.cell? ⟨w.heap.size, 0, none⟩ = some (.int .u16 (av : Int)) ∧ wq.cell? ⟨w.heap.size, 1, none⟩ = some (.int .u16 (aw : Int)) ∧ wq.cell? ⟨w.heap.size, 2, none⟩ = some (.int .u16 (al : Int)) ∧ wq.cell? ⟨w.heap.size, 3, none⟩ = some (.int .i64 ae) ∧ wq.cell? ⟨w.heap.size, 4, none⟩ = some (.int .i64 ak) ∧ wq.cell? ⟨w.heap.size, 5, none⟩ = some (.int .u16 (bv : Int)) ∧ wq.cell? ⟨w.heap.size, 6, none⟩ = some (.int .u16 (bw : Int)) ∧ wq.cell? ⟨w.heap.size, 7, none⟩ = some (.int .u16 (bl : Int)) ∧ wq.cell? ⟨w.heap.size, 8, none⟩ = some (.int .i64 be) ∧ wq.cell? ⟨w.heap.size, 9, none⟩ = some (.int .i64 bk) ∧ wq.cell? ⟨w.heap.size, 10, none⟩ = some (.bool t))) := fun wq hq => blk11 (k0.below hq k0.lt)
 have q0 := Below.refl (w.alloc (.cells #[.int .u16 (av : Int), .int .u16 (aw : Int), .int .u16 (al : Int), .int .i64 ae, .int .i64 ak, .int .u16 (bv : Int), .int .u16 (bw : Int), .int .u16 (bl : Int), .int .i64 be, .int .i64 bk, .bool t] 27)).heap.size (w.alloc (.cells #[.int .u16 (av : Int), .int .u16 (aw : Int), .int .u16 (al : Int), .int .i64 ae, .int .i64 ak, .int .u16 (bv : Int), .int .u16 (bw : Int), .int .u16 (bl : Int), .int .i64 be, .int .i64 bk, .bool t] 27))
 clear k0
 go_enter Tryz.func115, Tryz.ntmps115
 go_upto_region 1 with (fail)
 generalize (w.alloc (.cells #[.int .u16 (av : Int), .int .u16 (aw : Int), .int .u16 (al : Int), .int .i64 ae, .int .i64 ak, .int .u16 (bv : Int), .int .u16 (bw : Int), .int .u16 (bl : Int), .int .i64 be, .int .i64 bk, .bool t] 27)) = w1 at *
 have r0 := HS.out _ q0
 cases t
 ·
  go_wp2_with (rw [hg])
  refine (HA.out _).mono ?_
  rintro e y1 ⟨rfl, hY1⟩
  have q1 := q0.trans (hY1.mono q0.size)
  have r1 := HS.out _ q1
  go_wp2_with fail
  go_ret
  exact ⟨ref9.ret_u16 (by simp), HB.out.trans (q1.mono HB.out.size)⟩
 ·
  go_wp2_with (rw [hg])
  refine (HA.out _).mono ?_
  rintro e y1 ⟨rfl, hY1⟩
  have q1 := q0.trans (hY1.mono q0.size)
  have r1 := HS.out _ q1
  go_wp2_with (rw [hg])
  refine (HBC.out _ (by simp)).mono ?_
  rintro e y2 ⟨rfl, hY2⟩
  have q2 := q1.trans (hY2.mono q1.size)
  go_wp2_with fail
  go_ret
  exact ⟨ref9.ret_u16 (by simp), HB.out.trans (q2.mono HB.out.size)⟩
theorem membersJ_any (j : JtL) (w : World) (h : j.ok) : Calls Tryz.prog 145 #[jtV j] w fun e w' => e = .returned (.int .u16 ((unF j memF : Nat) : Int)) ∧ Below w.heap.size w w' := by
 have C := Lh (fun w => union_any j 171 memF w (fun _ _ => rfl) (mem_lt h.1) (mem_lt h.2) (fun w => members_any j.a w h.1) (fun w _ => members_any j.b w h.2))
 generalize unF j memF = u at *
 unfold jtV at *
 obtain ⟨⟨av, aw, al, ae, ak⟩, ⟨bv, bw, bl, be, bk⟩, t⟩ := j
 dsimp only at *
 clear h
 have k0 : Blk 27 (w.alloc (.cells #[.int .u16 (av : Int), .int .u16 (aw : Int), .int .u16 (al : Int), .int .i64 ae, .int .i64 ak, .int .u16 (bv : Int), .int .u16 (bw : Int), .int .u16 (bl : Int), .int .i64 be, .int .i64 bk, .bool t] 27)) w.heap.size [.int .u16 (av : Int), .int .u16 (aw : Int), .int .u16 (al : Int), .int .i64 ae, .int .i64 ak, .int .u16 (bv : Int), .int .u16 (bw : Int), .int .u16 (bl : Int), .int .i64 be, .int .i64 bk, .bool t] := heap_alloc_new w _
 have HB := Lh ((Below.refl w.heap.size w).alloc (Nat.le_refl _) (.cells #[.int .u16 (av : Int), .int .u16 (aw : Int), .int .u16 (al : Int), .int .i64 ae, .int .i64 ak, .int .u16 (bv : Int), .int .u16 (bw : Int), .int .u16 (bl : Int), .int .i64 be, .int .i64 bk, .bool t] 27))
 have HS : Hid (∀ wq, Below (w.alloc (.cells #[.int .u16 (av : Int), .int .u16 (aw : Int), .int .u16 (al : Int), .int .i64 ae, .int .i64 ak, .int .u16 (bv : Int), .int .u16 (bw : Int), .int .u16 (bl : Int), .int .i64 be, .int .i64 bk, .bool t] 27)).heap.size (w.alloc (.cells #[.int .u16 (av : Int), .int .u16 (aw : Int), .int .u16 (al : Int), .int .i64 ae, .int .i64 ak, .int .u16 (bv : Int), .int .u16 (bw : Int), .int .u16 (bl : Int), .int .i64 be, .int .i64 bk, .bool t] 27)) wq → (wq.cell? ⟨w.heap.size, 0, none⟩ = some (.int .u16 (av : Int)) ∧ wq.cell? ⟨w.heap.size, 1, none⟩ = some (.int .u16 (aw : Int)) ∧ wq.cell? ⟨w.heap.size, 2, none⟩ = some (.int .u16 (al : Int)) ∧ wq.cell? ⟨w.heap.size, 3, none⟩ = some (.int .i64 ae) ∧ wq.cell? ⟨w.heap.size, 4, none⟩ = some (.int .i64 ak) ∧ wq.cell? ⟨w.heap.size, 5, none⟩ = some (.int .u16 (bv : Int)) ∧ wq.cell? ⟨w.heap.size, 6, none⟩ = some (.int .u16 (bw : Int)) ∧ wq.cell? ⟨w.heap.size, 7, none⟩ = some (.int .u16 (bl : Int)) ∧ wq.cell? ⟨w.heap.size, 8, none⟩ = some (.int .i64 be) ∧ wq.cell? ⟨w.heap.size, 9, none⟩ = some (.int .i64 bk) ∧ wq.cell? ⟨w.heap.size, 10, none⟩ = some (.bool t))) := fun wq hq => blk11 (k0.below hq k0.lt)
 have q0 := Below.refl (w.alloc (.cells #[.int .u16 (av : Int), .int .u16 (aw : Int), .int .u16 (al : Int), .int .i64 ae, .int .i64 ak, .int .u16 (bv : Int), .int .u16 (bw : Int), .int .u16 (bl : Int), .int .i64 be, .int .i64 bk, .bool t] 27)).heap.size (w.alloc (.cells #[.int .u16 (av : Int), .int .u16 (aw : Int), .int .u16 (al : Int), .int .i64 ae, .int .i64 ak, .int .u16 (bv : Int), .int .u16 (bw : Int), .int .u16 (bl : Int), .int .i64 be, .int .i64 bk, .bool t] 27))
 clear k0
 go_enter Tryz.func145, Tryz.ntmps145
 go_upto_region 1 with (fail)
 generalize (w.alloc (.cells #[.int .u16 (av : Int), .int .u16 (aw : Int), .int .u16 (al : Int), .int .i64 ae, .int .i64 ak, .int .u16 (bv : Int), .int .u16 (bw : Int), .int .u16 (bl : Int), .int .i64 be, .int .i64 bk, .bool t] 27)) = w1 at *
 have r0 := HS.out _ q0
 go_wp2_with fail
 refine (C.out _).mono ?_
 rintro e y1 ⟨rfl, hY1⟩
 have q1 := q0.trans (hY1.mono q0.size)
 have r1 := HS.out _ q1
 go_wp2_with fail
 go_ret
 exact ⟨rfl, HB.out.trans (q1.mono HB.out.size)⟩
theorem votingJ_any (j : JtL) (w : World) (h : j.ok) : Calls Tryz.prog 121 #[jtV j] w fun e w' => e = .returned (.int .u16 ((unF j votF : Nat) : Int)) ∧ Below w.heap.size w w' := by
 have C := Lh (fun w => union_any j 160 votF w (fun _ _ => rfl) (vot_lt h.1) (vot_lt h.2) (fun w => voting_any j.a w h.1) (fun w _ => voting_any j.b w h.2))
 generalize unF j votF = u at *
 unfold jtV at *
 obtain ⟨⟨av, aw, al, ae, ak⟩, ⟨bv, bw, bl, be, bk⟩, t⟩ := j
 dsimp only at *
 clear h
 have k0 : Blk 27 (w.alloc (.cells #[.int .u16 (av : Int), .int .u16 (aw : Int), .int .u16 (al : Int), .int .i64 ae, .int .i64 ak, .int .u16 (bv : Int), .int .u16 (bw : Int), .int .u16 (bl : Int), .int .i64 be, .int .i64 bk, .bool t] 27)) w.heap.size [.int .u16 (av : Int), .int .u16 (aw : Int), .int .u16 (al : Int), .int .i64 ae, .int .i64 ak, .int .u16 (bv : Int), .int .u16 (bw : Int), .int .u16 (bl : Int), .int .i64 be, .int .i64 bk, .bool t] := heap_alloc_new w _
 have HB := Lh ((Below.refl w.heap.size w).alloc (Nat.le_refl _) (.cells #[.int .u16 (av : Int), .int .u16 (aw : Int), .int .u16 (al : Int), .int .i64 ae, .int .i64 ak, .int .u16 (bv : Int), .int .u16 (bw : Int), .int .u16 (bl : Int), .int .i64 be, .int .i64 bk, .bool t] 27))
 have HS : Hid (∀ wq, Below (w.alloc (.cells #[.int .u16 (av : Int), .int .u16 (aw : Int), .int .u16 (al : Int), .int .i64 ae, .int .i64 ak, .int .u16 (bv : Int), .int .u16 (bw : Int), .int .u16 (bl : Int), .int .i64 be, .int .i64 bk, .bool t] 27)).heap.size (w.alloc (.cells #[.int .u16 (av : Int), .int .u16 (aw : Int), .int .u16 (al : Int), .int .i64 ae, .int .i64 ak, .int .u16 (bv : Int), .int .u16 (bw : Int), .int .u16 (bl : Int), .int .i64 be, .int .i64 bk, .bool t] 27)) wq → (wq.cell? ⟨w.heap.size, 0, none⟩ = some (.int .u16 (av : Int)) ∧ wq.cell? ⟨w.heap.size, 1, none⟩ = some (.int .u16 (aw : Int)) ∧ wq.cell? ⟨w.heap.size, 2, none⟩ = some (.int .u16 (al : Int)) ∧ wq.cell? ⟨w.heap.size, 3, none⟩ = some (.int .i64 ae) ∧ wq.cell? ⟨w.heap.size, 4, none⟩ = some (.int .i64 ak) ∧ wq.cell? ⟨w.heap.size, 5, none⟩ = some (.int .u16 (bv : Int)) ∧ wq.cell? ⟨w.heap.size, 6, none⟩ = some (.int .u16 (bw : Int)) ∧ wq.cell? ⟨w.heap.size, 7, none⟩ = some (.int .u16 (bl : Int)) ∧ wq.cell? ⟨w.heap.size, 8, none⟩ = some (.int .i64 be) ∧ wq.cell? ⟨w.heap.size, 9, none⟩ = some (.int .i64 bk) ∧ wq.cell? ⟨w.heap.size, 10, none⟩ = some (.bool t))) := fun wq hq => blk11 (k0.below hq k0.lt)
 have q0 := Below.refl (w.alloc (.cells #[.int .u16 (av : Int), .int .u16 (aw : Int), .int .u16 (al : Int), .int .i64 ae, .int .i64 ak, .int .u16 (bv : Int), .int .u16 (bw : Int), .int .u16 (bl : Int), .int .i64 be, .int .i64 bk, .bool t] 27)).heap.size (w.alloc (.cells #[.int .u16 (av : Int), .int .u16 (aw : Int), .int .u16 (al : Int), .int .i64 ae, .int .i64 ak, .int .u16 (bv : Int), .int .u16 (bw : Int), .int .u16 (bl : Int), .int .i64 be, .int .i64 bk, .bool t] 27))
 clear k0
 go_enter Tryz.func121, Tryz.ntmps121
 go_upto_region 1 with (fail)
 generalize (w.alloc (.cells #[.int .u16 (av : Int), .int .u16 (aw : Int), .int .u16 (al : Int), .int .i64 ae, .int .i64 ak, .int .u16 (bv : Int), .int .u16 (bw : Int), .int .u16 (bl : Int), .int .i64 be, .int .i64 bk, .bool t] 27)) = w1 at *
 have r0 := HS.out _ q0
 go_wp2_with fail
 refine (C.out _).mono ?_
 rintro e y1 ⟨rfl, hY1⟩
 have q1 := q0.trans (hY1.mono q0.size)
 have r1 := HS.out _ q1
 go_wp2_with fail
 go_ret
 exact ⟨rfl, HB.out.trans (q1.mono HB.out.size)⟩
theorem leads_any (j : JtL) (n : Int) (w : World) (h : j.ok) (h0 : -9223372036854775808 ≤ n) (h1 : n ≤ 9223372036854775807) : Calls Tryz.prog 59 #[jtV j, .int .i64 n] w fun e w' => e = .returned (.bool (ledF j n)) ∧ Below w.heap.size w w' := by
 have C := Lh (fun w => union_any j 116 (fun c => c.v) w (fun _ _ => rfl) h.1.1 h.2.1 (fun w => voters_any j.a w h.1) (fun w _ => voters_any j.b w h.2))
 have CH := Lh (fun w => seti.has_any (unF j (·.v)) n w (un_lt h.1.1 h.2.1) h0 h1)
 unfold ledF
 generalize hasF (unF j (·.v)) n = b at *
 generalize unF j (·.v) = u at *
 unfold jtV at *
 obtain ⟨⟨av, aw, al, ae, ak⟩, ⟨bv, bw, bl, be, bk⟩, t⟩ := j
 dsimp only at *
 clear h
 have k0 : Blk 27 (w.alloc (.cells #[.int .u16 (av : Int), .int .u16 (aw : Int), .int .u16 (al : Int), .int .i64 ae, .int .i64 ak, .int .u16 (bv : Int), .int .u16 (bw : Int), .int .u16 (bl : Int), .int .i64 be, .int .i64 bk, .bool t] 27)) w.heap.size [.int .u16 (av : Int), .int .u16 (aw : Int), .int .u16 (al : Int), .int .i64 ae, .int .i64 ak, .int .u16 (bv : Int), .int .u16 (bw : Int), .int .u16 (bl : Int), .int .i64 be, .int .i64 bk, .bool t] := heap_alloc_new w _
 have HB := Lh ((Below.refl w.heap.size w).alloc (Nat.le_refl _) (.cells #[.int .u16 (av : Int), .int .u16 (aw : Int), .int .u16 (al : Int), .int .i64 ae, .int .i64 ak, .int .u16 (bv : Int), .int .u16 (bw : Int), .int .u16 (bl : Int), .int .i64 be, .int .i64 bk, .bool t] 27))
 have HS : Hid (∀ wq, Below (w.alloc (.cells #[.int .u16 (av : Int), .int .u16 (aw : Int), .int .u16 (al : Int), .int .i64 ae, .int .i64 ak, .int .u16 (bv : Int), .int .u16 (bw : Int), .int .u16 (bl : Int), .int .i64 be, .int .i64 bk, .bool t] 27)).heap.size (w.alloc (.cells #[.int .u16 (av : Int), .int .u16 (aw : Int), .int .u16 (al : Int), .int .i64 ae, .int .i64 ak, .int .u16 (bv : Int), .int .u16 (bw : Int), .int .u16 (bl : Int), .int .i64 be, .int .i64 bk, .bool t] 27)) wq → (wq.cell? ⟨w.heap.size, 0, none⟩ = some (.int .u16 (av : Int)) ∧ wq.cell? ⟨w.heap.size, 1, none⟩ = some (.int .u16 (aw : Int)) ∧ wq.cell? ⟨w.heap.size, 2, none⟩ = some (.int .u16 (al : Int)) ∧ wq.cell? ⟨w.heap.size, 3, none⟩ = some (.int .i64 ae) ∧ wq.cell? ⟨w.heap.size, 4, none⟩ = some (.int .i64 ak) ∧ wq.cell? ⟨w.heap.size, 5, none⟩ = some (.int .u16 (bv : Int)) ∧ wq.cell? ⟨w.heap.size, 6, none⟩ = some (.int .u16 (bw : Int)) ∧ wq.cell? ⟨w.heap.size, 7, none⟩ = some (.int .u16 (bl : Int)) ∧ wq.cell? ⟨w.heap.size, 8, none⟩ = some (.int .i64 be) ∧ wq.cell? ⟨w.heap.size, 9, none⟩ = some (.int .i64 bk) ∧ wq.cell? ⟨w.heap.size, 10, none⟩ = some (.bool t))) := fun wq hq => blk11 (k0.below hq k0.lt)
 have q0 := Below.refl (w.alloc (.cells #[.int .u16 (av : Int), .int .u16 (aw : Int), .int .u16 (al : Int), .int .i64 ae, .int .i64 ak, .int .u16 (bv : Int), .int .u16 (bw : Int), .int .u16 (bl : Int), .int .i64 be, .int .i64 bk, .bool t] 27)).heap.size (w.alloc (.cells #[.int .u16 (av : Int), .int .u16 (aw : Int), .int .u16 (al : Int), .int .i64 ae, .int .i64 ak, .int .u16 (bv : Int), .int .u16 (bw : Int), .int .u16 (bl : Int), .int .i64 be, .int .i64 bk, .bool t] 27))
 clear k0
 go_enter Tryz.func59, Tryz.ntmps59
 go_upto_region 1 with (fail)
 generalize (w.alloc (.cells #[.int .u16 (av : Int), .int .u16 (aw : Int), .int .u16 (al : Int), .int .i64 ae, .int .i64 ak, .int .u16 (bv : Int), .int .u16 (bw : Int), .int .u16 (bl : Int), .int .i64 be, .int .i64 bk, .bool t] 27)) = w1 at *
 have r0 := HS.out _ q0
 go_wp2_with fail
 refine (C.out _).mono ?_
 rintro e y1 ⟨rfl, hY1⟩
 have q1 := q0.trans (hY1.mono q0.size)
 have r1 := HS.out _ q1
 go_wp2_with fail
 refine (CH.out _).mono ?_
 rintro e y2 ⟨rfl, hY2⟩
 have q2 := q1.trans (hY2.mono q1.size)
 have r2 := HS.out _ q2
 go_wp2_with fail
 go_ret
 exact ⟨rfl, HB.out.trans (q2.mono HB.out.size)⟩
theorem elects1_any (c : CfL) (got p : Nat) (w : World) (h : c.ok) (hgot : got < 65536) (hp : Blk 23 w p [.int .u16 (got : Int)]) : Calls Tryz.prog 162 #[cfV c, .pointer (some ⟨p, 0, none⟩)] w fun e w' => e = .returned (.bool (elC c got)) ∧ Below w.heap.size w w' := by
 have CV := Lh (fun w => voting_any c w h)
 have HA := bits_and_u16_nat got (votF c) hgot (vot_lt h)
 have hl : got &&& votF c < 65536 := Nat.lt_of_le_of_lt Nat.and_le_left hgot
 have CC := Lh (fun w => count_any (got &&& votF c) w hl)
 have hn9 := cntF_le (got &&& votF c)
 unfold elC
 generalize cntF (got &&& votF c) = n at *
 generalize got &&& votF c = z at *
 generalize votF c = sv at *
 unfold cfV at *
 obtain ⟨cv, cw, cl, ce, ck⟩ := c
 dsimp only at *
 clear h
 have k0 : Blk 25 (w.alloc (.cells #[.int .u16 (cv : Int), .int .u16 (cw : Int), .int .u16 (cl : Int), .int .i64 ce, .int .i64 ck] 25)) w.heap.size [.int .u16 (cv : Int), .int .u16 (cw : Int), .int .u16 (cl : Int), .int .i64 ce, .int .i64 ck] := heap_alloc_new w _
 have k1 : Blk 23 (w.alloc (.cells #[.int .u16 (cv : Int), .int .u16 (cw : Int), .int .u16 (cl : Int), .int .i64 ce, .int .i64 ck] 25)) p [.int .u16 (got : Int)] := Blk.alloc hp _
 have HB := Lh ((Below.refl w.heap.size w).alloc (Nat.le_refl _) (.cells #[.int .u16 (cv : Int), .int .u16 (cw : Int), .int .u16 (cl : Int), .int .i64 ce, .int .i64 ck] 25))
 have HS : Hid (∀ wq, Below (w.alloc (.cells #[.int .u16 (cv : Int), .int .u16 (cw : Int), .int .u16 (cl : Int), .int .i64 ce, .int .i64 ck] 25)).heap.size (w.alloc (.cells #[.int .u16 (cv : Int), .int .u16 (cw : Int), .int .u16 (cl : Int), .int .i64 ce, .int .i64 ck] 25)) wq → (wq.cell? ⟨w.heap.size, 0, none⟩ = some (.int .u16 (cv : Int)) ∧ wq.cell? ⟨w.heap.size, 1, none⟩ = some (.int .u16 (cw : Int)) ∧ wq.cell? ⟨w.heap.size, 2, none⟩ = some (.int .u16 (cl : Int)) ∧ wq.cell? ⟨w.heap.size, 3, none⟩ = some (.int .i64 ce) ∧ wq.cell? ⟨w.heap.size, 4, none⟩ = some (.int .i64 ck)) ∧ wq.cell? ⟨p, 0, none⟩ = some (.int .u16 (got : Int))) := fun wq hq => ⟨blk5 (k0.below hq k0.lt), (k1.below hq k1.lt).cell 0⟩
 have q0 := Below.refl (w.alloc (.cells #[.int .u16 (cv : Int), .int .u16 (cw : Int), .int .u16 (cl : Int), .int .i64 ce, .int .i64 ck] 25)).heap.size (w.alloc (.cells #[.int .u16 (cv : Int), .int .u16 (cw : Int), .int .u16 (cl : Int), .int .i64 ce, .int .i64 ck] 25))
 clear k0 k1 hp
 go_enter Tryz.func162, Tryz.ntmps162
 go_upto_region 1 with (fail)
 generalize (w.alloc (.cells #[.int .u16 (cv : Int), .int .u16 (cw : Int), .int .u16 (cl : Int), .int .i64 ce, .int .i64 ck] 25)) = w1 at *
 have r0 := HS.out _ q0
 have q1 := q0.drew
 refine wp_region_held_drew (S := fun wq => (wq.cell? ⟨w.heap.size, 0, none⟩ = some (.int .u16 (cv : Int)) ∧ wq.cell? ⟨w.heap.size, 1, none⟩ = some (.int .u16 (cw : Int)) ∧ wq.cell? ⟨w.heap.size, 2, none⟩ = some (.int .u16 (cl : Int)) ∧ wq.cell? ⟨w.heap.size, 3, none⟩ = some (.int .i64 ce) ∧ wq.cell? ⟨w.heap.size, 4, none⟩ = some (.int .i64 ck)) ∧ wq.cell? ⟨p, 0, none⟩ = some (.int .u16 (got : Int))) (by kernel_rfl) ?s_lel1 (fun hHeld => ?_)
 case s_lel1 => exact HS.out _ q1
 iterate 2 (refine tx 0 _ ?_; try simp only [Act.put, ka, kb, kc])
 iterate 2 (refine tx 5 _ ?_; try simp only [Act.put, ka, kb, kc])
 refine rr [2] ?_
 refine rc (fun KQ hKQ => ?_) AllReadyH.nil
 go_simp
 refine (CV.out _).mono ?_
 rintro e y2 ⟨rfl, hY2⟩
 have q2 := q1.trans (hY2.mono q1.size)
 have r2 := HS.out _ q2
 go_wp2_with fail
 refine hKQ.out _ _ (r2) (fun _ => ?_)
 clear hKQ KQ
 try simp only [Act.put, ka, kb, kc]
 refine tj 3 _ ?_
 try simp only [Act.put, ka, kb, kc]
 refine rr [4] ?_
 refine rc (fun KQ hKQ => ?_) AllReadyH.nil
 go_simp
 refine (CC.out _).mono ?_
 rintro e y3 ⟨rfl, hY3⟩
 have q3 := q2.trans (hY3.mono q2.size)
 have r3 := HS.out _ q3
 go_wp2_with fail
 refine hKQ.out _ _ (r3) (fun _ => ?_)
 clear hKQ KQ
 try simp only [Act.put, ka, kb, kc]
 iterate 2 (refine tx 7 _ ?_; try simp only [Act.put, ka, kb, kc])
 refine wpAnyH_done (by kernel_rfl) ?_ _
 go_wp2_with fail
 go_ret
 exact ⟨ref9.ret_bool (by simp), HB.out.trans (q3.mono HB.out.size)⟩
theorem commits1_any (c : CfL) (got p : Nat) (w : World) (h : c.ok) (hgot : got < 65536) (hp : Blk 23 w p [.int .u16 (got : Int)]) : Calls Tryz.prog 158 #[cfV c, .pointer (some ⟨p, 0, none⟩)] w fun e w' => e = .returned (.bool (coC c got)) ∧ Below w.heap.size w w' := by
 have CV := Lh (fun w => voting_any c w h)
 have HA := bits_and_u16_nat got (votF c) hgot (vot_lt h)
 have hl : got &&& votF c < 65536 := Nat.lt_of_le_of_lt Nat.and_le_left hgot
 have CC := Lh (fun w => count_any (got &&& votF c) w hl)
 have hn9 := cntF_le (got &&& votF c)
 have HA2 := bits_and_u16_nat got c.v hgot h.1
 unfold coC
 generalize cntF (got &&& votF c) = n at *
 generalize got &&& votF c = z at *
 generalize votF c = sv at *
 generalize got &&& c.v = z2 at *
 unfold cfV at *
 obtain ⟨cv, cw, cl, ce, ck⟩ := c
 dsimp only at *
 clear h
 have k0 : Blk 25 (w.alloc (.cells #[.int .u16 (cv : Int), .int .u16 (cw : Int), .int .u16 (cl : Int), .int .i64 ce, .int .i64 ck] 25)) w.heap.size [.int .u16 (cv : Int), .int .u16 (cw : Int), .int .u16 (cl : Int), .int .i64 ce, .int .i64 ck] := heap_alloc_new w _
 have k1 : Blk 23 (w.alloc (.cells #[.int .u16 (cv : Int), .int .u16 (cw : Int), .int .u16 (cl : Int), .int .i64 ce, .int .i64 ck] 25)) p [.int .u16 (got : Int)] := Blk.alloc hp _
 have HB := Lh ((Below.refl w.heap.size w).alloc (Nat.le_refl _) (.cells #[.int .u16 (cv : Int), .int .u16 (cw : Int), .int .u16 (cl : Int), .int .i64 ce, .int .i64 ck] 25))
 have HS : Hid (∀ wq, Below (w.alloc (.cells #[.int .u16 (cv : Int), .int .u16 (cw : Int), .int .u16 (cl : Int), .int .i64 ce, .int .i64 ck] 25)).heap.size (w.alloc (.cells #[.int .u16 (cv : Int), .int .u16 (cw : Int), .int .u16 (cl : Int), .int .i64 ce, .int .i64 ck] 25)) wq → (wq.cell? ⟨w.heap.size, 0, none⟩ = some (.int .u16 (cv : Int)) ∧ wq.cell? ⟨w.heap.size, 1, none⟩ = some (.int .u16 (cw : Int)) ∧ wq.cell? ⟨w.heap.size, 2, none⟩ = some (.int .u16 (cl : Int)) ∧ wq.cell? ⟨w.heap.size, 3, none⟩ = some (.int .i64 ce) ∧ wq.cell? ⟨w.heap.size, 4, none⟩ = some (.int .i64 ck)) ∧ wq.cell? ⟨p, 0, none⟩ = some (.int .u16 (got : Int))) := fun wq hq => ⟨blk5 (k0.below hq k0.lt), (k1.below hq k1.lt).cell 0⟩
 have q0 := Below.refl (w.alloc (.cells #[.int .u16 (cv : Int), .int .u16 (cw : Int), .int .u16 (cl : Int), .int .i64 ce, .int .i64 ck] 25)).heap.size (w.alloc (.cells #[.int .u16 (cv : Int), .int .u16 (cw : Int), .int .u16 (cl : Int), .int .i64 ce, .int .i64 ck] 25))
 clear k0 k1 hp
 go_enter Tryz.func158, Tryz.ntmps158
 go_upto_region 1 with (fail)
 generalize (w.alloc (.cells #[.int .u16 (cv : Int), .int .u16 (cw : Int), .int .u16 (cl : Int), .int .i64 ce, .int .i64 ck] 25)) = w1 at *
 have r0 := HS.out _ q0
 by_cases hp : ck ≤ n
 ·
  have g : decide (ck ≤ (n : Int)) = true := decide_eq_true hp
  have HP := Lh hp
  clear hp
  have q1 := q0.drew
  refine wp_region_held_drew (S := fun wq => (wq.cell? ⟨w.heap.size, 0, none⟩ = some (.int .u16 (cv : Int)) ∧ wq.cell? ⟨w.heap.size, 1, none⟩ = some (.int .u16 (cw : Int)) ∧ wq.cell? ⟨w.heap.size, 2, none⟩ = some (.int .u16 (cl : Int)) ∧ wq.cell? ⟨w.heap.size, 3, none⟩ = some (.int .i64 ce) ∧ wq.cell? ⟨w.heap.size, 4, none⟩ = some (.int .i64 ck)) ∧ wq.cell? ⟨p, 0, none⟩ = some (.int .u16 (got : Int))) (by kernel_rfl) ?s_lco1 (fun hHeld => ?_)
  case s_lco1 => exact HS.out _ q1
  iterate 2 (refine tx 0 _ ?_; try simp only [Act.put, ka, kb, kc])
  iterate 2 (refine tx 5 _ ?_; try simp only [Act.put, ka, kb, kc])
  refine rr [2] ?_
  refine rc (fun KQ hKQ => ?_) AllReadyH.nil
  go_simp
  refine (CV.out _).mono ?_
  rintro e y2 ⟨rfl, hY2⟩
  have q2 := q1.trans (hY2.mono q1.size)
  have r2 := HS.out _ q2
  go_wp2_with fail
  refine hKQ.out _ _ (r2) (fun _ => ?_)
  clear hKQ KQ
  try simp only [Act.put, ka, kb, kc]
  refine tj 3 _ ?_
  try simp only [Act.put, ka, kb, kc]
  refine rr [4] ?_
  refine rc (fun KQ hKQ => ?_) AllReadyH.nil
  go_simp
  refine (CC.out _).mono ?_
  rintro e y3 ⟨rfl, hY3⟩
  have q3 := q2.trans (hY3.mono q2.size)
  have r3 := HS.out _ q3
  go_wp2_with fail
  refine hKQ.out _ _ (r3) (fun _ => ?_)
  clear hKQ KQ
  try simp only [Act.put, ka, kb, kc]
  iterate 9 (refine tx 7 _ ?_; try simp only [Act.put, ka, kb, kc])
  refine wpAnyH_done (by kernel_rfl) ?_ _
  go_wp2_with fail
  go_ret
  exact ⟨ref9.ret_bool (by rw [decide_eq_true HP.out, Bool.true_and, Bool.eq_iff_iff, bne_iff_ne, decide_eq_true_eq]; omega), HB.out.trans (q3.mono HB.out.size)⟩
 ·
  have g : decide (ck ≤ (n : Int)) = false := decide_eq_false (by omega)
  have HP := Lh hp
  clear hp
  have q1 := q0.drew
  refine wp_region_held_drew (S := fun wq => (wq.cell? ⟨w.heap.size, 0, none⟩ = some (.int .u16 (cv : Int)) ∧ wq.cell? ⟨w.heap.size, 1, none⟩ = some (.int .u16 (cw : Int)) ∧ wq.cell? ⟨w.heap.size, 2, none⟩ = some (.int .u16 (cl : Int)) ∧ wq.cell? ⟨w.heap.size, 3, none⟩ = some (.int .i64 ce) ∧ wq.cell? ⟨w.heap.size, 4, none⟩ = some (.int .i64 ck)) ∧ wq.cell? ⟨p, 0, none⟩ = some (.int .u16 (got : Int))) (by kernel_rfl) ?s_lco2 (fun hHeld => ?_)
  case s_lco2 => exact HS.out _ q1
  iterate 2 (refine tx 0 _ ?_; try simp only [Act.put, ka, kb, kc])
  iterate 2 (refine tx 5 _ ?_; try simp only [Act.put, ka, kb, kc])
  refine rr [2] ?_
  refine rc (fun KQ hKQ => ?_) AllReadyH.nil
  go_simp
  refine (CV.out _).mono ?_
  rintro e y2 ⟨rfl, hY2⟩
  have q2 := q1.trans (hY2.mono q1.size)
  have r2 := HS.out _ q2
  go_wp2_with fail
  refine hKQ.out _ _ (r2) (fun _ => ?_)
  clear hKQ KQ
  try simp only [Act.put, ka, kb, kc]
  refine tj 3 _ ?_
  try simp only [Act.put, ka, kb, kc]
  refine rr [4] ?_
  refine rc (fun KQ hKQ => ?_) AllReadyH.nil
  go_simp
  refine (CC.out _).mono ?_
  rintro e y3 ⟨rfl, hY3⟩
  have q3 := q2.trans (hY3.mono q2.size)
  have r3 := HS.out _ q3
  go_wp2_with fail
  refine hKQ.out _ _ (r3) (fun _ => ?_)
  clear hKQ KQ
  try simp only [Act.put, ka, kb, kc]
  iterate 2 (refine tx 7 _ ?_; try simp only [Act.put, ka, kb, kc])
  refine tv 9 ?_
  try simp only [Act.put, ka, kb, kc]
  refine tv 10 ?_
  try simp only [Act.put, ka, kb, kc]
  refine tv 11 ?_
  try simp only [Act.put, ka, kb, kc]
  refine tv 12 ?_
  try simp only [Act.put, ka, kb, kc]
  refine tv 13 ?_
  try simp only [Act.put, ka, kb, kc]
  iterate 2 (refine tx 14 _ ?_; try simp only [Act.put, ka, kb, kc])
  refine wpAnyH_done (by kernel_rfl) ?_ _
  go_wp2_with fail
  go_ret
  exact ⟨ref9.ret_bool (by rw [decide_eq_false (by have := HP.out; omega)]; rfl), HB.out.trans (q3.mono HB.out.size)⟩
theorem elects_any (j : JtL) (got : Nat) (w : World) (h : j.ok) (hgot : got < 65536) : Calls Tryz.prog 118 #[jtV j, .int .u16 (got : Int)] w fun e w' => e = .returned (.bool (elJ j got)) ∧ Below w.heap.size w w' := by
 have hmf : ∀ (fn : Fn) (first cap : Array Value) (w : World), (Instr.makeFunc fn first cap).run Tryz.prog w = .ok (.func fn first cap) w := fun _ _ _ _ => rfl
 have C := Lh (fun w p hp => each1_any j 162 (.pointer (some ⟨p, 0, none⟩)) (fun c => elC c got) (fun w => Blk 23 w p [.int .u16 (got : Int)]) w (fun _ _ => rfl) (fun w w' hw hb => hw.below hb hw.lt) (fun w hw => elects1_any j.a got p w h.1 hgot hw) (fun w _ hw => elects1_any j.b got p w h.2 hgot hw) hp)
 unfold elJ
 generalize bothJ j (fun c => elC c got) = b at *
 unfold jtV at *
 obtain ⟨⟨av, aw, al, ae, ak⟩, ⟨bv, bw, bl, be, bk⟩, t⟩ := j
 dsimp only at *
 clear h
 have k0 : Blk 27 ((w.alloc (.cells #[.int .u16 (av : Int), .int .u16 (aw : Int), .int .u16 (al : Int), .int .i64 ae, .int .i64 ak, .int .u16 (bv : Int), .int .u16 (bw : Int), .int .u16 (bl : Int), .int .i64 be, .int .i64 bk, .bool t] 27)).alloc (.cells #[.int .u16 (got : Int)] 23)) w.heap.size [.int .u16 (av : Int), .int .u16 (aw : Int), .int .u16 (al : Int), .int .i64 ae, .int .i64 ak, .int .u16 (bv : Int), .int .u16 (bw : Int), .int .u16 (bl : Int), .int .i64 be, .int .i64 bk, .bool t] := Blk.alloc (heap_alloc_new w _) _
 have k1 : Blk 23 ((w.alloc (.cells #[.int .u16 (av : Int), .int .u16 (aw : Int), .int .u16 (al : Int), .int .i64 ae, .int .i64 ak, .int .u16 (bv : Int), .int .u16 (bw : Int), .int .u16 (bl : Int), .int .i64 be, .int .i64 bk, .bool t] 27)).alloc (.cells #[.int .u16 (got : Int)] 23)) (w.heap.size + 1) [.int .u16 (got : Int)] := by have := heap_alloc_new (w.alloc (.cells #[.int .u16 (av : Int), .int .u16 (aw : Int), .int .u16 (al : Int), .int .i64 ae, .int .i64 ak, .int .u16 (bv : Int), .int .u16 (bw : Int), .int .u16 (bl : Int), .int .i64 be, .int .i64 bk, .bool t] 27)) (.cells #[.int .u16 (got : Int)] 23); rwa [show (w.alloc (.cells #[.int .u16 (av : Int), .int .u16 (aw : Int), .int .u16 (al : Int), .int .i64 ae, .int .i64 ak, .int .u16 (bv : Int), .int .u16 (bw : Int), .int .u16 (bl : Int), .int .i64 be, .int .i64 bk, .bool t] 27)).heap.size = w.heap.size + 1 by simp] at this
 have HB := Lh (((Below.refl w.heap.size w).alloc (Nat.le_refl _) (.cells #[.int .u16 (av : Int), .int .u16 (aw : Int), .int .u16 (al : Int), .int .i64 ae, .int .i64 ak, .int .u16 (bv : Int), .int .u16 (bw : Int), .int .u16 (bl : Int), .int .i64 be, .int .i64 bk, .bool t] 27)).alloc (by simp) (.cells #[.int .u16 (got : Int)] 23))
 have HC := Lh (C.out ((w.alloc (.cells #[.int .u16 (av : Int), .int .u16 (aw : Int), .int .u16 (al : Int), .int .i64 ae, .int .i64 ak, .int .u16 (bv : Int), .int .u16 (bw : Int), .int .u16 (bl : Int), .int .i64 be, .int .i64 bk, .bool t] 27)).alloc (.cells #[.int .u16 (got : Int)] 23)) _ k1)
 have r0 := blk11 k0
 have q0 := Below.refl ((w.alloc (.cells #[.int .u16 (av : Int), .int .u16 (aw : Int), .int .u16 (al : Int), .int .i64 ae, .int .i64 ak, .int .u16 (bv : Int), .int .u16 (bw : Int), .int .u16 (bl : Int), .int .i64 be, .int .i64 bk, .bool t] 27)).alloc (.cells #[.int .u16 (got : Int)] 23)).heap.size ((w.alloc (.cells #[.int .u16 (av : Int), .int .u16 (aw : Int), .int .u16 (al : Int), .int .i64 ae, .int .i64 ak, .int .u16 (bv : Int), .int .u16 (bw : Int), .int .u16 (bl : Int), .int .i64 be, .int .i64 bk, .bool t] 27)).alloc (.cells #[.int .u16 (got : Int)] 23))
 clear k0 k1 C
 go_enter Tryz.func118, Tryz.ntmps118
 go_upto_region 1 with (fail)
 generalize ((w.alloc (.cells #[.int .u16 (av : Int), .int .u16 (aw : Int), .int .u16 (al : Int), .int .i64 ae, .int .i64 ak, .int .u16 (bv : Int), .int .u16 (bw : Int), .int .u16 (bl : Int), .int .i64 be, .int .i64 bk, .bool t] 27)).alloc (.cells #[.int .u16 (got : Int)] 23)) = w1 at *
 go_wp2_with (rw [hmf])
 refine HC.out.mono ?_
 rintro e y1 ⟨rfl, hY1⟩
 have q1 := q0.trans (hY1.mono q0.size)
 go_wp2_with fail
 go_ret
 exact ⟨rfl, HB.out.trans (q1.mono HB.out.size)⟩
theorem commits_any (j : JtL) (got : Nat) (w : World) (h : j.ok) (hgot : got < 65536) : Calls Tryz.prog 111 #[jtV j, .int .u16 (got : Int)] w fun e w' => e = .returned (.bool (coJ j got)) ∧ Below w.heap.size w w' := by
 have hmf : ∀ (fn : Fn) (first cap : Array Value) (w : World), (Instr.makeFunc fn first cap).run Tryz.prog w = .ok (.func fn first cap) w := fun _ _ _ _ => rfl
 have C := Lh (fun w p hp => each1_any j 158 (.pointer (some ⟨p, 0, none⟩)) (fun c => coC c got) (fun w => Blk 23 w p [.int .u16 (got : Int)]) w (fun _ _ => rfl) (fun w w' hw hb => hw.below hb hw.lt) (fun w hw => commits1_any j.a got p w h.1 hgot hw) (fun w _ hw => commits1_any j.b got p w h.2 hgot hw) hp)
 unfold coJ
 generalize bothJ j (fun c => coC c got) = b at *
 unfold jtV at *
 obtain ⟨⟨av, aw, al, ae, ak⟩, ⟨bv, bw, bl, be, bk⟩, t⟩ := j
 dsimp only at *
 clear h
 have k0 : Blk 27 ((w.alloc (.cells #[.int .u16 (av : Int), .int .u16 (aw : Int), .int .u16 (al : Int), .int .i64 ae, .int .i64 ak, .int .u16 (bv : Int), .int .u16 (bw : Int), .int .u16 (bl : Int), .int .i64 be, .int .i64 bk, .bool t] 27)).alloc (.cells #[.int .u16 (got : Int)] 23)) w.heap.size [.int .u16 (av : Int), .int .u16 (aw : Int), .int .u16 (al : Int), .int .i64 ae, .int .i64 ak, .int .u16 (bv : Int), .int .u16 (bw : Int), .int .u16 (bl : Int), .int .i64 be, .int .i64 bk, .bool t] := Blk.alloc (heap_alloc_new w _) _
 have k1 : Blk 23 ((w.alloc (.cells #[.int .u16 (av : Int), .int .u16 (aw : Int), .int .u16 (al : Int), .int .i64 ae, .int .i64 ak, .int .u16 (bv : Int), .int .u16 (bw : Int), .int .u16 (bl : Int), .int .i64 be, .int .i64 bk, .bool t] 27)).alloc (.cells #[.int .u16 (got : Int)] 23)) (w.heap.size + 1) [.int .u16 (got : Int)] := by have := heap_alloc_new (w.alloc (.cells #[.int .u16 (av : Int), .int .u16 (aw : Int), .int .u16 (al : Int), .int .i64 ae, .int .i64 ak, .int .u16 (bv : Int), .int .u16 (bw : Int), .int .u16 (bl : Int), .int .i64 be, .int .i64 bk, .bool t] 27)) (.cells #[.int .u16 (got : Int)] 23); rwa [show (w.alloc (.cells #[.int .u16 (av : Int), .int .u16 (aw : Int), .int .u16 (al : Int), .int .i64 ae, .int .i64 ak, .int .u16 (bv : Int), .int .u16 (bw : Int), .int .u16 (bl : Int), .int .i64 be, .int .i64 bk, .bool t] 27)).heap.size = w.heap.size + 1 by simp] at this
 have HB := Lh (((Below.refl w.heap.size w).alloc (Nat.le_refl _) (.cells #[.int .u16 (av : Int), .int .u16 (aw : Int), .int .u16 (al : Int), .int .i64 ae, .int .i64 ak, .int .u16 (bv : Int), .int .u16 (bw : Int), .int .u16 (bl : Int), .int .i64 be, .int .i64 bk, .bool t] 27)).alloc (by simp) (.cells #[.int .u16 (got : Int)] 23))
 have HC := Lh (C.out ((w.alloc (.cells #[.int .u16 (av : Int), .int .u16 (aw : Int), .int .u16 (al : Int), .int .i64 ae, .int .i64 ak, .int .u16 (bv : Int), .int .u16 (bw : Int), .int .u16 (bl : Int), .int .i64 be, .int .i64 bk, .bool t] 27)).alloc (.cells #[.int .u16 (got : Int)] 23)) _ k1)
 have r0 := blk11 k0
 have q0 := Below.refl ((w.alloc (.cells #[.int .u16 (av : Int), .int .u16 (aw : Int), .int .u16 (al : Int), .int .i64 ae, .int .i64 ak, .int .u16 (bv : Int), .int .u16 (bw : Int), .int .u16 (bl : Int), .int .i64 be, .int .i64 bk, .bool t] 27)).alloc (.cells #[.int .u16 (got : Int)] 23)).heap.size ((w.alloc (.cells #[.int .u16 (av : Int), .int .u16 (aw : Int), .int .u16 (al : Int), .int .i64 ae, .int .i64 ak, .int .u16 (bv : Int), .int .u16 (bw : Int), .int .u16 (bl : Int), .int .i64 be, .int .i64 bk, .bool t] 27)).alloc (.cells #[.int .u16 (got : Int)] 23))
 clear k0 k1 C
 go_enter Tryz.func111, Tryz.ntmps111
 go_upto_region 1 with (fail)
 generalize ((w.alloc (.cells #[.int .u16 (av : Int), .int .u16 (aw : Int), .int .u16 (al : Int), .int .i64 ae, .int .i64 ak, .int .u16 (bv : Int), .int .u16 (bw : Int), .int .u16 (bl : Int), .int .i64 be, .int .i64 bk, .bool t] 27)).alloc (.cells #[.int .u16 (got : Int)] 23)) = w1 at *
 go_wp2_with (rw [hmf])
 refine HC.out.mono ?_
 rintro e y1 ⟨rfl, hY1⟩
 have q1 := q0.trans (hY1.mono q0.size)
 go_wp2_with fail
 go_ret
 exact ⟨rfl, HB.out.trans (q1.mono HB.out.size)⟩
end Go.Proofs.YtegnfkbmlalkeaaGreat.confi
