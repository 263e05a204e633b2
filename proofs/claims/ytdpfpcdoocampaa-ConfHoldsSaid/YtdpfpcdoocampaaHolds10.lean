/- ConfHolds answers true: whatever elects meets whatever commits, and whatever elects, along a change. Conditions: sets are uint16 values, numbers int. -/
import Derived.Test.YtdpfpcdoocampaaBegun10
import Derived.Test.YtdpfpcdoocampaaKitJ
namespace Go.Proofs.Ytdpfpcdoocampaa.law10
open Go Go.RowKit Go.Proofs.Ytdpfpcdoocampaa.kit Go.Proofs.Ytdpfpcdoocampaa.nums Go.Proofs.Ytdpfpcdoocampaa.se Go.Proofs.Ytdpfpcdoocampaa.cf
set_option linter.unusedVariables false

set_option maxRecDepth 10000 in
set_option maxHeartbeats 8000000 in
theorem holds_nat (j : JtL) (to : CfL) (x y : Nat) (w : World) (h : j.ok) (ht : to.ok) (hx : x < 65536) (hy : y < 65536) :
    Calls Try.prog 6 #[jtV j, cfV to, .int .u16 (x : Int), .int .u16 (y : Int)] w fun e w' => e = .returned (.bool true) ∧ Below w.heap.size w w' := by
  have CB := Lib.hid (fun w => begun_any w)
  have LJ := Lib.hid (fun w => confi.mayJ_any j w h)
  have CH := Lib.hid (fun w => confi.change_any j to w h ht)
  have hN := change_ok h ht
  have CF := Lib.hid (fun w => confi.final_any (changeJ j to) w)
  have hF := final_ok hN
  have MN := Lib.hid (fun w => confi.mayJ_any (changeJ j to) w hN)
  have MF := Lib.hid (fun w => confi.mayJ_any (finalJ (changeJ j to)) w hF)
  have HM1 := Lib.hid (fun hm => meetL_one (j := j) (a := x &&& 1022) (b := y &&& 1022) hm)
  have HM3 := Lib.hid (fun hm he => meetL_three (j := j) (to := to) (a := x &&& 1022) (b := y &&& 1022) hm he)
  have HMN := Lib.hid (fun hm he => change_mayJ (j := j) (to := to) (mayJ_a hm) he)
  have EL := Lib.hid (fun (i : JtL) (hi : i.ok) (s : Nat) (hs : s < 65536) w => confi.elects_any i s w hi hs)
  have CO := Lib.hid (fun (i : JtL) (hi : i.ok) (s : Nat) (hs : s < 65536) w => confi.commits_any i s w hi hs)
  have A1 : bits .and .u16 (x : Int) 1022 = _ := bits_and_u16_nat x 1022 hx (by omega)
  have A2 : bits .and .u16 (y : Int) 1022 = _ := bits_and_u16_nat y 1022 hy (by omega)
  have hx2 : x &&& 1022 < 65536 := Nat.lt_of_le_of_lt Nat.and_le_left hx
  have hy2 : y &&& 1022 < 65536 := Nat.lt_of_le_of_lt Nat.and_le_left hy
  generalize x &&& 1022 = xm at *
  generalize y &&& 1022 = ym at *
  have A3 := bits_and_u16_nat xm ym hx2 hy2
  have HOK := Lib.hid h
  have HON := Lib.hid hN
  have HOF := Lib.hid hF
  generalize finalJ (changeJ j to) = Fi at *
  generalize changeJ j to = N at *
  generalize changeE j to = E at *
  generalize hmj : mayJ j = mj at *
  clear h ht hN hF
  have hmn : mj = true → E = 0 → mayJ N = true ∧ mayJ Fi = true := fun h1 h2 => HMN.out h1 h2
  clear HMN
  generalize mayJ N = mn at *
  generalize mayJ Fi = mf at *
  unfold jtV at LJ CF MN MF
  unfold jtV cfV at CH ⊢
  obtain ⟨⟨av, aw, al, ae, ak⟩, ⟨bv, bw, bl, be, bk⟩, t⟩ := j
  obtain ⟨cv, cw, cl, ce, ck⟩ := to
  obtain ⟨⟨nv, nw, nl, ne, nk⟩, ⟨mv, mw, ml, me, mk⟩, nt⟩ := N
  obtain ⟨⟨fv, fw, fl, fe, fk⟩, ⟨gv, gw, gl, ge, gk⟩, ft⟩ := Fi
  dsimp only at CH LJ CF MN MF ⊢
  clear hmj
  have k0 : Blk 27 ((w.alloc (.cells #[.int .u16 (av : Int), .int .u16 (aw : Int), .int .u16 (al : Int), .int .i64 ae, .int .i64 ak, .int .u16 (bv : Int), .int .u16 (bw : Int), .int .u16 (bl : Int), .int .i64 be, .int .i64 bk, .bool t] 27)).alloc (.cells #[.int .u16 (cv : Int), .int .u16 (cw : Int), .int .u16 (cl : Int), .int .i64 ce, .int .i64 ck] 25)) w.heap.size [.int .u16 (av : Int), .int .u16 (aw : Int), .int .u16 (al : Int), .int .i64 ae, .int .i64 ak, .int .u16 (bv : Int), .int .u16 (bw : Int), .int .u16 (bl : Int), .int .i64 be, .int .i64 bk, .bool t] := Blk.alloc (heap_alloc_new w _) _
  have k1 : Blk 25 ((w.alloc (.cells #[.int .u16 (av : Int), .int .u16 (aw : Int), .int .u16 (al : Int), .int .i64 ae, .int .i64 ak, .int .u16 (bv : Int), .int .u16 (bw : Int), .int .u16 (bl : Int), .int .i64 be, .int .i64 bk, .bool t] 27)).alloc (.cells #[.int .u16 (cv : Int), .int .u16 (cw : Int), .int .u16 (cl : Int), .int .i64 ce, .int .i64 ck] 25)) (w.heap.size + 1) [.int .u16 (cv : Int), .int .u16 (cw : Int), .int .u16 (cl : Int), .int .i64 ce, .int .i64 ck] := by have := heap_alloc_new (w.alloc (.cells #[.int .u16 (av : Int), .int .u16 (aw : Int), .int .u16 (al : Int), .int .i64 ae, .int .i64 ak, .int .u16 (bv : Int), .int .u16 (bw : Int), .int .u16 (bl : Int), .int .i64 be, .int .i64 bk, .bool t] 27)) (.cells #[.int .u16 (cv : Int), .int .u16 (cw : Int), .int .u16 (cl : Int), .int .i64 ce, .int .i64 ck] 25); rwa [show (w.alloc (.cells #[.int .u16 (av : Int), .int .u16 (aw : Int), .int .u16 (al : Int), .int .i64 ae, .int .i64 ak, .int .u16 (bv : Int), .int .u16 (bw : Int), .int .u16 (bl : Int), .int .i64 be, .int .i64 bk, .bool t] 27)).heap.size = w.heap.size + 1 by simp] at this
  have HB := Lib.hid (((Below.refl w.heap.size w).alloc (Nat.le_refl _) (.cells #[.int .u16 (av : Int), .int .u16 (aw : Int), .int .u16 (al : Int), .int .i64 ae, .int .i64 ak, .int .u16 (bv : Int), .int .u16 (bw : Int), .int .u16 (bl : Int), .int .i64 be, .int .i64 bk, .bool t] 27)).alloc (by simp) (.cells #[.int .u16 (cv : Int), .int .u16 (cw : Int), .int .u16 (cl : Int), .int .i64 ce, .int .i64 ck] 25))
  have HS : Hid (∀ wq, Below ((w.alloc (.cells #[.int .u16 (av : Int), .int .u16 (aw : Int), .int .u16 (al : Int), .int .i64 ae, .int .i64 ak, .int .u16 (bv : Int), .int .u16 (bw : Int), .int .u16 (bl : Int), .int .i64 be, .int .i64 bk, .bool t] 27)).alloc (.cells #[.int .u16 (cv : Int), .int .u16 (cw : Int), .int .u16 (cl : Int), .int .i64 ce, .int .i64 ck] 25)).heap.size ((w.alloc (.cells #[.int .u16 (av : Int), .int .u16 (aw : Int), .int .u16 (al : Int), .int .i64 ae, .int .i64 ak, .int .u16 (bv : Int), .int .u16 (bw : Int), .int .u16 (bl : Int), .int .i64 be, .int .i64 bk, .bool t] 27)).alloc (.cells #[.int .u16 (cv : Int), .int .u16 (cw : Int), .int .u16 (cl : Int), .int .i64 ce, .int .i64 ck] 25)) wq → (wq.cell? ⟨w.heap.size, 0, none⟩ = some (.int .u16 (av : Int)) ∧ wq.cell? ⟨w.heap.size, 1, none⟩ = some (.int .u16 (aw : Int)) ∧ wq.cell? ⟨w.heap.size, 2, none⟩ = some (.int .u16 (al : Int)) ∧ wq.cell? ⟨w.heap.size, 3, none⟩ = some (.int .i64 ae) ∧ wq.cell? ⟨w.heap.size, 4, none⟩ = some (.int .i64 ak) ∧ wq.cell? ⟨w.heap.size, 5, none⟩ = some (.int .u16 (bv : Int)) ∧ wq.cell? ⟨w.heap.size, 6, none⟩ = some (.int .u16 (bw : Int)) ∧ wq.cell? ⟨w.heap.size, 7, none⟩ = some (.int .u16 (bl : Int)) ∧ wq.cell? ⟨w.heap.size, 8, none⟩ = some (.int .i64 be) ∧ wq.cell? ⟨w.heap.size, 9, none⟩ = some (.int .i64 bk) ∧ wq.cell? ⟨w.heap.size, 10, none⟩ = some (.bool t)) ∧ (wq.cell? ⟨w.heap.size + 1, 0, none⟩ = some (.int .u16 (cv : Int)) ∧ wq.cell? ⟨w.heap.size + 1, 1, none⟩ = some (.int .u16 (cw : Int)) ∧ wq.cell? ⟨w.heap.size + 1, 2, none⟩ = some (.int .u16 (cl : Int)) ∧ wq.cell? ⟨w.heap.size + 1, 3, none⟩ = some (.int .i64 ce) ∧ wq.cell? ⟨w.heap.size + 1, 4, none⟩ = some (.int .i64 ck))) := fun wq hq => ⟨blk11 (k0.below hq k0.lt), blk5 (k1.below hq k1.lt)⟩
  have q0 := Below.refl ((w.alloc (.cells #[.int .u16 (av : Int), .int .u16 (aw : Int), .int .u16 (al : Int), .int .i64 ae, .int .i64 ak, .int .u16 (bv : Int), .int .u16 (bw : Int), .int .u16 (bl : Int), .int .i64 be, .int .i64 bk, .bool t] 27)).alloc (.cells #[.int .u16 (cv : Int), .int .u16 (cw : Int), .int .u16 (cl : Int), .int .i64 ce, .int .i64 ck] 25)).heap.size ((w.alloc (.cells #[.int .u16 (av : Int), .int .u16 (aw : Int), .int .u16 (al : Int), .int .i64 ae, .int .i64 ak, .int .u16 (bv : Int), .int .u16 (bw : Int), .int .u16 (bl : Int), .int .i64 be, .int .i64 bk, .bool t] 27)).alloc (.cells #[.int .u16 (cv : Int), .int .u16 (cw : Int), .int .u16 (cl : Int), .int .i64 ce, .int .i64 ck] 25))
  clear k0 k1
  go_enter Try.func6, Try.ntmps6
  go_upto_region 1 with (fail)
  generalize ((w.alloc (.cells #[.int .u16 (av : Int), .int .u16 (aw : Int), .int .u16 (al : Int), .int .i64 ae, .int .i64 ak, .int .u16 (bv : Int), .int .u16 (bw : Int), .int .u16 (bl : Int), .int .i64 be, .int .i64 bk, .bool t] 27)).alloc (.cells #[.int .u16 (cv : Int), .int .u16 (cw : Int), .int .u16 (cl : Int), .int .i64 ce, .int .i64 ck] 25)) = w1 at *
  have r0 := HS.out _ q0
  go_wp2_with fail
  refine (CB.out _).mono ?_
  rintro e y1 ⟨rfl, hY1⟩
  have q1 := q0.trans (hY1.mono q0.size)
  have r1 := HS.out _ q1
  cases mj
  · go_wp2_with fail
    refine (LJ.out _).mono ?_
    rintro e y2 ⟨rfl, hY2⟩
    have q2 := q1.trans (hY2.mono q1.size)
    have r2 := HS.out _ q2
    go_wp2_with fail
    go_ret
    exact ⟨rfl, HB.out.trans (q2.mono HB.out.size)⟩
  · go_wp2_with fail
    refine (LJ.out _).mono ?_
    rintro e y2 ⟨rfl, hY2⟩
    have q2 := q1.trans (hY2.mono q1.size)
    have r2 := HS.out _ q2
    go_wp2_with fail
    refine (CH.out _).mono ?_
    rintro e y3 ⟨rfl, hY3⟩
    have q3 := q2.trans (hY3.mono q2.size)
    have r3 := HS.out _ q3
    have k9 : Blk 27 ((y3.alloc (.cells #[.int .u16 (nv : Int), .int .u16 (nw : Int), .int .u16 (nl : Int), .int .i64 ne, .int .i64 nk, .int .u16 (mv : Int), .int .u16 (mw : Int), .int .u16 (ml : Int), .int .i64 me, .int .i64 mk, .bool nt] 27)).alloc (.cells #[.int .u16 (av : Int), .int .u16 (aw : Int), .int .u16 (al : Int), .int .i64 ae, .int .i64 ak, .int .u16 (bv : Int), .int .u16 (bw : Int), .int .u16 (bl : Int), .int .i64 be, .int .i64 bk, .bool t] 27)) y3.heap.size [.int .u16 (nv : Int), .int .u16 (nw : Int), .int .u16 (nl : Int), .int .i64 ne, .int .i64 nk, .int .u16 (mv : Int), .int .u16 (mw : Int), .int .u16 (ml : Int), .int .i64 me, .int .i64 mk, .bool nt] := Blk.alloc (heap_alloc_new y3 _) _
    have kl : Blk 27 ((y3.alloc (.cells #[.int .u16 (nv : Int), .int .u16 (nw : Int), .int .u16 (nl : Int), .int .i64 ne, .int .i64 nk, .int .u16 (mv : Int), .int .u16 (mw : Int), .int .u16 (ml : Int), .int .i64 me, .int .i64 mk, .bool nt] 27)).alloc (.cells #[.int .u16 (av : Int), .int .u16 (aw : Int), .int .u16 (al : Int), .int .i64 ae, .int .i64 ak, .int .u16 (bv : Int), .int .u16 (bw : Int), .int .u16 (bl : Int), .int .i64 be, .int .i64 bk, .bool t] 27)) (y3.heap.size + 1) [.int .u16 (av : Int), .int .u16 (aw : Int), .int .u16 (al : Int), .int .i64 ae, .int .i64 ak, .int .u16 (bv : Int), .int .u16 (bw : Int), .int .u16 (bl : Int), .int .i64 be, .int .i64 bk, .bool t] := by have := heap_alloc_new (y3.alloc (.cells #[.int .u16 (nv : Int), .int .u16 (nw : Int), .int .u16 (nl : Int), .int .i64 ne, .int .i64 nk, .int .u16 (mv : Int), .int .u16 (mw : Int), .int .u16 (ml : Int), .int .i64 me, .int .i64 mk, .bool nt] 27)) (.cells #[.int .u16 (av : Int), .int .u16 (aw : Int), .int .u16 (al : Int), .int .i64 ae, .int .i64 ak, .int .u16 (bv : Int), .int .u16 (bw : Int), .int .u16 (bl : Int), .int .i64 be, .int .i64 bk, .bool t] 27); rwa [show (y3.alloc (.cells #[.int .u16 (nv : Int), .int .u16 (nw : Int), .int .u16 (nl : Int), .int .i64 ne, .int .i64 nk, .int .u16 (mv : Int), .int .u16 (mw : Int), .int .u16 (ml : Int), .int .i64 me, .int .i64 mk, .bool nt] 27)).heap.size = y3.heap.size + 1 by simp] at this
    have hB5 := (q3.alloc q3.size (.cells #[.int .u16 (nv : Int), .int .u16 (nw : Int), .int .u16 (nl : Int), .int .i64 ne, .int .i64 nk, .int .u16 (mv : Int), .int .u16 (mw : Int), .int .u16 (ml : Int), .int .i64 me, .int .i64 mk, .bool nt] 27)).alloc (q3.alloc q3.size (.cells #[.int .u16 (nv : Int), .int .u16 (nw : Int), .int .u16 (nl : Int), .int .i64 ne, .int .i64 nk, .int .u16 (mv : Int), .int .u16 (mw : Int), .int .u16 (ml : Int), .int .i64 me, .int .i64 mk, .bool nt] 27)).size (.cells #[.int .u16 (av : Int), .int .u16 (aw : Int), .int .u16 (al : Int), .int .i64 ae, .int .i64 ak, .int .u16 (bv : Int), .int .u16 (bw : Int), .int .u16 (bl : Int), .int .i64 be, .int .i64 bk, .bool t] 27)
    have HO1 : Hid (OwnJs ((y3.alloc (.cells #[.int .u16 (nv : Int), .int .u16 (nw : Int), .int .u16 (nl : Int), .int .i64 ne, .int .i64 nk, .int .u16 (mv : Int), .int .u16 (mw : Int), .int .u16 (ml : Int), .int .i64 me, .int .i64 mk, .bool nt] 27)).alloc (.cells #[.int .u16 (av : Int), .int .u16 (aw : Int), .int .u16 (al : Int), .int .i64 ae, .int .i64 ak, .int .u16 (bv : Int), .int .u16 (bw : Int), .int .u16 (bl : Int), .int .i64 be, .int .i64 bk, .bool t] 27)) (y3.heap.size + 1) (.slice (some ⟨y3.heap.size + 1, 0, none⟩) 1 1) [(⟨⟨av, aw, al, ae, ak⟩, ⟨bv, bw, bl, be, bk⟩, t⟩ : JtL)]) := OwnJs.one (j := (⟨⟨av, aw, al, ae, ak⟩, ⟨bv, bw, bl, be, bk⟩, t⟩ : JtL)) kl (Nat.le_refl _)
    have hsz : y3.heap.size + 1 ≤ ((y3.alloc (.cells #[.int .u16 (nv : Int), .int .u16 (nw : Int), .int .u16 (nl : Int), .int .i64 ne, .int .i64 nk, .int .u16 (mv : Int), .int .u16 (mw : Int), .int .u16 (ml : Int), .int .i64 me, .int .i64 mk, .bool nt] 27)).alloc (.cells #[.int .u16 (av : Int), .int .u16 (aw : Int), .int .u16 (al : Int), .int .i64 ae, .int .i64 ak, .int .u16 (bv : Int), .int .u16 (bw : Int), .int .u16 (bl : Int), .int .i64 be, .int .i64 bk, .bool t] 27)).heap.size := by simp
    have ra := HS.out _ (q3.alloc q3.size (.cells #[.int .u16 (nv : Int), .int .u16 (nw : Int), .int .u16 (nl : Int), .int .i64 ne, .int .i64 nk, .int .u16 (mv : Int), .int .u16 (mw : Int), .int .u16 (ml : Int), .int .i64 me, .int .i64 mk, .bool nt] 27))
    go_upto_region 8 with (fail)
    generalize ((y3.alloc (.cells #[.int .u16 (nv : Int), .int .u16 (nw : Int), .int .u16 (nl : Int), .int .i64 ne, .int .i64 nk, .int .u16 (mv : Int), .int .u16 (mw : Int), .int .u16 (ml : Int), .int .i64 me, .int .i64 mk, .bool nt] 27)).alloc (.cells #[.int .u16 (av : Int), .int .u16 (aw : Int), .int .u16 (al : Int), .int .i64 ae, .int .i64 ak, .int .u16 (bv : Int), .int .u16 (bw : Int), .int .u16 (bl : Int), .int .i64 be, .int .i64 bk, .bool t] 27)) = w7 at *
    have hp1 : y3.heap.size < y3.heap.size + 1 := Nat.lt_succ_self _
    have hpw : w.heap.size ≤ y3.heap.size + 1 := Nat.le_trans (HB.out.trans (q3.mono HB.out.size)).size (Nat.le_succ _)
    generalize hp : y3.heap.size + 1 = p1 at *
    have HS7 : Hid (∀ wq, Below p1 w7 wq → (wq.cell? ⟨y3.heap.size, 0, none⟩ = some (.int .u16 (nv : Int)) ∧ wq.cell? ⟨y3.heap.size, 1, none⟩ = some (.int .u16 (nw : Int)) ∧ wq.cell? ⟨y3.heap.size, 2, none⟩ = some (.int .u16 (nl : Int)) ∧ wq.cell? ⟨y3.heap.size, 3, none⟩ = some (.int .i64 ne) ∧ wq.cell? ⟨y3.heap.size, 4, none⟩ = some (.int .i64 nk) ∧ wq.cell? ⟨y3.heap.size, 5, none⟩ = some (.int .u16 (mv : Int)) ∧ wq.cell? ⟨y3.heap.size, 6, none⟩ = some (.int .u16 (mw : Int)) ∧ wq.cell? ⟨y3.heap.size, 7, none⟩ = some (.int .u16 (ml : Int)) ∧ wq.cell? ⟨y3.heap.size, 8, none⟩ = some (.int .i64 me) ∧ wq.cell? ⟨y3.heap.size, 9, none⟩ = some (.int .i64 mk) ∧ wq.cell? ⟨y3.heap.size, 10, none⟩ = some (.bool nt))) := fun wq hq => blk11 (k9.below hq hp1)
    have HB7 := Lib.hid (HB.out.trans (hB5.mono HB.out.size))
    have p0 := Below.refl p1 w7
    have s0 := HS7.out _ p0
    clear ra hB5 k9 kl HS CB LJ CH r0 r1 r2 r3 hY1 hY2 hY3
    by_cases he : E = 0
    · subst he
      obtain ⟨rfl, rfl⟩ := hmn (by simp) (by simp)
      clear hmn
      go_upto_region 9 with (fail)
      have p2 : Below p1 w7 w7.drew := p0.drew
      have HO2 := Lib.hid (HO1.out.below (Below.refl _ _).drew)
      refine wp_region_held_drew (S := fun wq => (wq.cell? ⟨y3.heap.size, 0, none⟩ = some (.int .u16 (nv : Int)) ∧ wq.cell? ⟨y3.heap.size, 1, none⟩ = some (.int .u16 (nw : Int)) ∧ wq.cell? ⟨y3.heap.size, 2, none⟩ = some (.int .u16 (nl : Int)) ∧ wq.cell? ⟨y3.heap.size, 3, none⟩ = some (.int .i64 ne) ∧ wq.cell? ⟨y3.heap.size, 4, none⟩ = some (.int .i64 nk) ∧ wq.cell? ⟨y3.heap.size, 5, none⟩ = some (.int .u16 (mv : Int)) ∧ wq.cell? ⟨y3.heap.size, 6, none⟩ = some (.int .u16 (mw : Int)) ∧ wq.cell? ⟨y3.heap.size, 7, none⟩ = some (.int .u16 (ml : Int)) ∧ wq.cell? ⟨y3.heap.size, 8, none⟩ = some (.int .i64 me) ∧ wq.cell? ⟨y3.heap.size, 9, none⟩ = some (.int .i64 mk) ∧ wq.cell? ⟨y3.heap.size, 10, none⟩ = some (.bool nt))) (by kernel_rfl) ?s_holds9 (fun hHeld => ?_)
      case s_holds9 => exact HS7.out _ p2
      refine tk 0 { dst := some 33, op := .move (.tmp 11), type := 41, pos := "law.go:68", after := #[], guard := none } _ ?_
      try simp only [Act.put, List.setIfInBounds_toArray, List.set_cons_zero, List.set_cons_succ]
      refine tk 1 { dst := some 34, op := .load 27 (.tmp 9), type := 27, pos := "law.go:68", after := #[], guard := none } _ ?_
      try simp only [Act.put, List.setIfInBounds_toArray, List.set_cons_zero, List.set_cons_succ]
      refine tk 2 { dst := some 35, op := .load 27 (.tmp 9), type := 27, pos := "law.go:68", after := #[], guard := none } _ ?_
      try simp only [Act.put, List.setIfInBounds_toArray, List.set_cons_zero, List.set_cons_succ]
      refine wpAnyH_ready (rs := [3]) (by kernel_rfl) (by simp) ?_
      refine AllReadyH.cons (o := { dst := some 36, op := .call { callee := .value (.func 29), args := #[.tmp 35], argTypes := #[27] }, type := 27, pos := "law.go:68", after := #[{ on := 2, ground := .data }], guard := none }) rfl (fun KQ hKQ => ?_) AllReadyH.nil
      go_simp
      refine (CF.out _).mono ?_
      rintro e z1 ⟨rfl, hZ1⟩
      have p3 := p2.trans (hZ1.mono (Nat.le_trans hsz p2.size))
      have HO3 := Lib.hid (HO2.out.below hZ1)
      have s3 := HS7.out _ p3
      have k4 : Blk 27 (z1.alloc (.cells #[.int .u16 (nv : Int), .int .u16 (nw : Int), .int .u16 (nl : Int), .int .i64 ne, .int .i64 nk, .int .u16 (mv : Int), .int .u16 (mw : Int), .int .u16 (ml : Int), .int .i64 me, .int .i64 mk, .bool nt, .int .u16 (fv : Int), .int .u16 (fw : Int), .int .u16 (fl : Int), .int .i64 fe, .int .i64 fk, .int .u16 (gv : Int), .int .u16 (gw : Int), .int .u16 (gl : Int), .int .i64 ge, .int .i64 gk, .bool ft] 27)) z1.heap.size [.int .u16 (nv : Int), .int .u16 (nw : Int), .int .u16 (nl : Int), .int .i64 ne, .int .i64 nk, .int .u16 (mv : Int), .int .u16 (mw : Int), .int .u16 (ml : Int), .int .i64 me, .int .i64 mk, .bool nt, .int .u16 (fv : Int), .int .u16 (fw : Int), .int .u16 (fl : Int), .int .i64 fe, .int .i64 fk, .int .u16 (gv : Int), .int .u16 (gw : Int), .int .u16 (gl : Int), .int .i64 ge, .int .i64 gk, .bool ft] := heap_alloc_new z1 _
      have p4 := p3.alloc (Nat.le_trans hsz p3.size) (.cells #[.int .u16 (nv : Int), .int .u16 (nw : Int), .int .u16 (nl : Int), .int .i64 ne, .int .i64 nk, .int .u16 (mv : Int), .int .u16 (mw : Int), .int .u16 (ml : Int), .int .i64 me, .int .i64 mk, .bool nt, .int .u16 (fv : Int), .int .u16 (fw : Int), .int .u16 (fl : Int), .int .i64 fe, .int .i64 fk, .int .u16 (gv : Int), .int .u16 (gw : Int), .int .u16 (gl : Int), .int .i64 ge, .int .i64 gk, .bool ft] 27)
      have HO4 := Lib.hid (HO3.out.below ((Below.refl _ _).alloc (Nat.le_refl _) (.cells #[.int .u16 (nv : Int), .int .u16 (nw : Int), .int .u16 (nl : Int), .int .i64 ne, .int .i64 nk, .int .u16 (mv : Int), .int .u16 (mw : Int), .int .u16 (ml : Int), .int .i64 me, .int .i64 mk, .bool nt, .int .u16 (fv : Int), .int .u16 (fw : Int), .int .u16 (fl : Int), .int .i64 fe, .int .i64 fk, .int .u16 (gv : Int), .int .u16 (gw : Int), .int .u16 (gl : Int), .int .i64 ge, .int .i64 gk, .bool ft] 27)))
      have s4 := HS7.out _ p4
      go_wp2_with fail
      refine hKQ.out _ _ ?s_3 (fun hHeld3 => ?_)
      case s_3 => exact s3
      clear hKQ KQ
      try simp only [Act.put, List.setIfInBounds_toArray, List.set_cons_zero, List.set_cons_succ]
      refine wpAnyH_ready (rs := [4]) (by kernel_rfl) (by simp) ?_
      refine AllReadyH.cons (o := { dst := some 37, op := .buildSlice 41 2 #[(0, .tmp 34), (1, .tmp 36)], type := 41, pos := "law.go:68", after := #[{ on := 1, ground := .data }, { on := 3, ground := .data }], guard := none }) rfl (fun KQ hKQ => ?_) AllReadyH.nil
      go_simp
      generalize z1.alloc (.cells #[.int .u16 (nv : Int), .int .u16 (nw : Int), .int .u16 (nl : Int), .int .i64 ne, .int .i64 nk, .int .u16 (mv : Int), .int .u16 (mw : Int), .int .u16 (ml : Int), .int .i64 me, .int .i64 mk, .bool nt, .int .u16 (fv : Int), .int .u16 (fw : Int), .int .u16 (fl : Int), .int .i64 fe, .int .i64 fk, .int .u16 (gv : Int), .int .u16 (gw : Int), .int .u16 (gl : Int), .int .i64 ge, .int .i64 gk, .bool ft] 27) = z4 at *
      refine hKQ.out _ _ ?s_4 (fun hHeld4 => ?_)
      case s_4 => exact s4
      clear hKQ KQ
      try simp only [Act.put, List.setIfInBounds_toArray, List.set_cons_zero, List.set_cons_succ]
      refine wpAnyH_ready (rs := [5]) (by kernel_rfl) (by simp) ?_
      refine AllReadyH.cons (o := { dst := some 38, op := .call { callee := .builtin .append, args := #[.tmp 33, .tmp 37], argTypes := #[41, 41] }, type := 41, pos := "law.go:68", after := #[{ on := 0, ground := .data }, { on := 4, ground := .data }, { on := 3, ground := .chain }], guard := none }) rfl (fun KQ hKQ => ?_) AllReadyH.nil
      refine step_appR rfl _ _ 41 rfl _ _ rfl rfl _ (append_two (x := (⟨⟨nv, nw, nl, ne, nk⟩, ⟨mv, mw, ml, me, mk⟩, nt⟩ : JtL)) (y := (⟨⟨fv, fw, fl, fe, fk⟩, ⟨gv, gw, gl, ge, gk⟩, ft⟩ : JtL)) _ HO4.out k4 (Nat.le_trans hsz p4.size)) ?_
      rintro v z5 ⟨A5, c5, rfl, hO5, hB5⟩
      have p5 := p4.trans hB5
      have s5 := HS7.out _ p5
      refine hKQ.out _ _ ?s_5 (fun hHeld5 => ?_)
      case s_5 => exact s5
      clear hKQ KQ
      try simp only [Act.put, List.setIfInBounds_toArray, List.set_cons_zero, List.set_cons_succ]
      refine tk 6 { dst := some 11, op := .assign (.tmp 38), type := 41, pos := "law.go:68", after := #[{ on := 5, ground := .data }, { on := 5, ground := .chain }, { on := 0, ground := .phase }, { on := 1, ground := .phase }, { on := 2, ground := .phase }, { on := 3, ground := .phase }, { on := 4, ground := .phase }, { on := 5, ground := .phase }], guard := none } _ ?_
      try simp only [Act.put, List.setIfInBounds_toArray, List.set_cons_zero, List.set_cons_succ]
      refine wpAnyH_done (by kernel_rfl) ?_ _
      go_upto_region 10 with (fail)
      have HO5 := Lib.hid hO5
      clear hO5 hB5 k4 s4 HO1 HO2 HO3 HO4 s0
      go_wp2_with fail
      refine (MN.out _).mono ?_
      rintro e z6 ⟨rfl, hZ6⟩
      have p6 := p5.trans (hZ6.mono (Nat.le_trans hsz p5.size))
      have HO6 := Lib.hid (HO5.out.below hZ6)
      have s6 := HS7.out _ p6
      go_wp2_with fail
      refine (CF.out _).mono ?_
      rintro e z7 ⟨rfl, hZ7⟩
      have p7 := p6.trans (hZ7.mono (Nat.le_trans hsz p6.size))
      have HO7 := Lib.hid (HO6.out.below hZ7)
      go_wp2_with fail
      refine (MF.out _).mono ?_
      rintro e z8 ⟨rfl, hZ8⟩
      have p8 := p7.trans (hZ8.mono (Nat.le_trans hsz p7.size))
      have hO8 := HO7.out.below hZ8
      have HBx := Lib.hid (HB7.out.trans (p8.mono hpw))
      have HL : Hid (∀ (i : Nat) (u : JtL), [(⟨⟨av, aw, al, ae, ak⟩, ⟨bv, bw, bl, be, bk⟩, t⟩ : JtL), (⟨⟨nv, nw, nl, ne, nk⟩, ⟨mv, mw, ml, me, mk⟩, nt⟩ : JtL), (⟨⟨fv, fw, fl, fe, fk⟩, ⟨gv, gw, gl, ge, gk⟩, ft⟩ : JtL)][i]? = some u → u.ok) := fun i u hu => by
        have hm := List.mem_of_getElem? hu
        simp only [List.mem_cons, List.not_mem_nil, or_false] at hm
        rcases hm with rfl | rfl | rfl
        · exact HOK.out
        · exact HON.out
        · exact HOF.out
      have HM := Lib.hid (HM3.out (by simp) (by simp))
      obtain ⟨pb, hA5, hpb, hnn, hAt⟩ := hO8.at_ (Nat.succ_pos _)
      clear hnn
      subst hA5
      have HA := Lib.hid hAt
      generalize hLL : [(⟨⟨av, aw, al, ae, ak⟩, ⟨bv, bw, bl, be, bk⟩, t⟩ : JtL), (⟨⟨nv, nw, nl, ne, nk⟩, ⟨mv, mw, ml, me, mk⟩, nt⟩ : JtL), (⟨⟨fv, fw, fl, fe, fk⟩, ⟨gv, gw, gl, ge, gk⟩, ft⟩ : JtL)] = L at *
      have hk : L.length = 3 := by rw [← hLL]; rfl
      clear hO8 hAt hLL p2 p3 p4 p5 p6 p7 p8 hZ1 hZ6 hZ7 hZ8 s3 s5 s6 HO5 HO6 HO7 HS7 HB7 HM1 HM3 HOK HON HOF MN MF CF hsz hp
      go_wp2_with fail
      go_loopw [12] (fun iv wr => ∃ i : Nat, i ≤ 3 ∧ iv = .int .i64 (i : Int) ∧ Below z8.heap.size z8 wr) (fun iv _ => 3 - (intOf iv).toNat)
      case atStart => exact ⟨0, Nat.zero_le _, rfl, Below.refl _ _⟩
      case round =>
        obtain ⟨i, hi, rfl, hBr⟩ := hrel
        by_cases hlt : i < 3
        · have hlti : (i : Int) < 3 := by omega
          obtain ⟨u, hu⟩ : ∃ u, L[i]? = some u := ⟨L[i]'(by rw [hk]; exact hlt), List.getElem?_eq_getElem _⟩
          have hAu := HA.out i u hu
          have E1 := Lib.hid (EL.out u (HL.out i u hu) xm hx2)
          have HMu := Lib.hid (fun k y hy => HM.out i k u y hu hy)
          clear hu
          obtain ⟨⟨pv, pw, pl, pe, pk⟩, ⟨qv, qw, ql, qe, qk⟩, pt⟩ := u
          go_wp2_with fail
          generalize wr = w8 at *
          go_loopw [13] (fun kv wr => ∃ i2 : Nat, i2 ≤ 3 ∧ kv = .int .i64 (i2 : Int) ∧ Below w8.heap.size w8 wr) (fun kv _ => 3 - (intOf kv).toNat)
          case atStart => exact ⟨0, Nat.zero_le _, rfl, Below.refl _ _⟩
          case round =>
            obtain ⟨i2, hi2, rfl, hBs⟩ := hrel
            by_cases hlt2 : i2 < 3
            · have hlt2i : (i2 : Int) < 3 := by omega
              obtain ⟨v, hv⟩ : ∃ v, L[i2]? = some v := ⟨L[i2]'(by rw [hk]; exact hlt2), List.getElem?_eq_getElem _⟩
              have hAv := HA.out i2 v hv
              have C2 := Lib.hid (CO.out v (HL.out i2 v hv) ym hy2)
              have E2 := Lib.hid (EL.out v (HL.out i2 v hv) ym hy2)
              have HMv := Lib.hid (HMu.out i2 v hv)
              clear hv
              obtain ⟨⟨rv, rx, rl, re, rk⟩, ⟨sv, sw, sl, se, sk⟩, vt⟩ := v
              have hbb := hBr.trans (hBs.mono hBr.size)
              have q0 := Below.refl wr.heap.size wr
              have HS : Hid (∀ wq, Below wr.heap.size wr wq → (wq.cell? ⟨pb, i * 11, none⟩ = some (.int .u16 (pv : Int)) ∧ wq.cell? ⟨pb, i * 11 + 1, none⟩ = some (.int .u16 (pw : Int)) ∧ wq.cell? ⟨pb, i * 11 + 2, none⟩ = some (.int .u16 (pl : Int)) ∧ wq.cell? ⟨pb, i * 11 + 3, none⟩ = some (.int .i64 pe) ∧ wq.cell? ⟨pb, i * 11 + 4, none⟩ = some (.int .i64 pk) ∧ wq.cell? ⟨pb, i * 11 + 5, none⟩ = some (.int .u16 (qv : Int)) ∧ wq.cell? ⟨pb, i * 11 + 6, none⟩ = some (.int .u16 (qw : Int)) ∧ wq.cell? ⟨pb, i * 11 + 7, none⟩ = some (.int .u16 (ql : Int)) ∧ wq.cell? ⟨pb, i * 11 + 8, none⟩ = some (.int .i64 qe) ∧ wq.cell? ⟨pb, i * 11 + 9, none⟩ = some (.int .i64 qk) ∧ wq.cell? ⟨pb, i * 11 + 10, none⟩ = some (.bool pt)) ∧ (wq.cell? ⟨pb, i2 * 11, none⟩ = some (.int .u16 (rv : Int)) ∧ wq.cell? ⟨pb, i2 * 11 + 1, none⟩ = some (.int .u16 (rx : Int)) ∧ wq.cell? ⟨pb, i2 * 11 + 2, none⟩ = some (.int .u16 (rl : Int)) ∧ wq.cell? ⟨pb, i2 * 11 + 3, none⟩ = some (.int .i64 re) ∧ wq.cell? ⟨pb, i2 * 11 + 4, none⟩ = some (.int .i64 rk) ∧ wq.cell? ⟨pb, i2 * 11 + 5, none⟩ = some (.int .u16 (sv : Int)) ∧ wq.cell? ⟨pb, i2 * 11 + 6, none⟩ = some (.int .u16 (sw : Int)) ∧ wq.cell? ⟨pb, i2 * 11 + 7, none⟩ = some (.int .u16 (sl : Int)) ∧ wq.cell? ⟨pb, i2 * 11 + 8, none⟩ = some (.int .i64 se) ∧ wq.cell? ⟨pb, i2 * 11 + 9, none⟩ = some (.int .i64 sk) ∧ wq.cell? ⟨pb, i2 * 11 + 10, none⟩ = some (.bool vt))) := fun wq hq => ⟨at11 (hAu.below hpb (hbb.trans (hq.mono hbb.size))), at11 (hAv.below hpb (hbb.trans (hq.mono hbb.size)))⟩
              clear hAv hbb
              have r0 := HS.out _ q0
              unfold jtV at C2 E2 E1
              dsimp only at C2 E2 E1
              by_cases far : (i2 : Int) + 1 < i ∨ (i : Int) + 1 < i2
              · rcases far with far | far
                · have g1 : decide ((1 : Int) < (i : Int) - i2) = true := decide_eq_true (by omega)
                  go_wp2_with fail
                  go_round
                  case rel => exact ⟨i2 + 1, by omega, by go_num, hBs.trans (q0.mono hBs.size)⟩
                  case measure => simp [intOf]; omega
                · have g1 : decide ((1 : Int) < (i : Int) - i2) = false := decide_eq_false (by omega)
                  have g2 : decide ((1 : Int) < (i2 : Int) - i) = true := decide_eq_true (by omega)
                  go_wp2_with fail
                  go_round
                  case rel => exact ⟨i2 + 1, by omega, by go_num, hBs.trans (q0.mono hBs.size)⟩
                  case measure => simp [intOf]; omega
              · have g1 : decide ((1 : Int) < (i : Int) - i2) = false := decide_eq_false (by omega)
                have g2 : decide ((1 : Int) < (i2 : Int) - i) = false := decide_eq_false (by omega)
                have near1 : i ≤ i2 + 1 := by omega
                have near2 : i2 ≤ i + 1 := by omega
                have HN := Lib.hid (HMv.out near1 near2)
                clear far near1 near2
                generalize elJ ⟨⟨pv, pw, pl, pe, pk⟩, ⟨qv, qw, ql, qe, qk⟩, pt⟩ xm = e1 at *
                generalize coJ ⟨⟨rv, rx, rl, re, rk⟩, ⟨sv, sw, sl, se, sk⟩, vt⟩ ym = c2 at *
                generalize elJ ⟨⟨rv, rx, rl, re, rk⟩, ⟨sv, sw, sl, se, sk⟩, vt⟩ ym = e2 at *
                generalize xm &&& ym = z at *
                cases e1
                · go_wp2_with fail
                  refine (E1.out _).mono ?_
                  rintro e y41 ⟨rfl, hY41⟩
                  have q41 := q0.trans (hY41.mono q0.size)
                  have r41 := HS.out _ q41
                  clear r0
                  go_wp2_with fail
                  go_round
                  case rel => exact ⟨i2 + 1, by omega, by go_num, hBs.trans (q41.mono hBs.size)⟩
                  case measure => simp [intOf]; omega
                · by_cases hz : z = 0
                  · have hc2 : c2 = false := by
                      cases c2 with
                      | false => rfl
                      | true => exact absurd hz (HN.out rfl (.inl rfl))
                    have he2 : e2 = false := by
                      cases e2 with
                      | false => rfl
                      | true => exact absurd hz (HN.out rfl (.inr rfl))
                    subst hc2 he2
                    have g3 : ((z : Int) == 0) = true := by rw [beq_iff_eq]; omega
                    clear hz HN
                    go_wp2_with fail
                    refine (E1.out _).mono ?_
                    rintro e y41 ⟨rfl, hY41⟩
                    have q41 := q0.trans (hY41.mono q0.size)
                    have r41 := HS.out _ q41
                    clear r0
                    go_wp2_with fail
                    refine (C2.out _).mono ?_
                    rintro e y42 ⟨rfl, hY42⟩
                    have q42 := q41.trans (hY42.mono q41.size)
                    have r42 := HS.out _ q42
                    clear r41
                    go_wp2_with fail
                    refine (E2.out _).mono ?_
                    rintro e y43 ⟨rfl, hY43⟩
                    have q43 := q42.trans (hY43.mono q42.size)
                    have r43 := HS.out _ q43
                    clear r42
                    go_wp2_with fail
                    go_round
                    case rel => exact ⟨i2 + 1, by omega, by go_num, hBs.trans (q43.mono hBs.size)⟩
                    case measure => simp [intOf]; omega
                  · have g3 : ((z : Int) == 0) = false := by rw [beq_eq_false_iff_ne]; omega
                    clear hz HN
                    go_wp2_with fail
                    refine (E1.out _).mono ?_
                    rintro e y41 ⟨rfl, hY41⟩
                    have q41 := q0.trans (hY41.mono q0.size)
                    have r41 := HS.out _ q41
                    clear r0
                    go_wp2_with fail
                    cases c2
                    · go_wp2_with fail
                      refine (C2.out _).mono ?_
                      rintro e y42 ⟨rfl, hY42⟩
                      have q42 := q41.trans (hY42.mono q41.size)
                      have r42 := HS.out _ q42
                      clear r41
                      go_wp2_with fail
                      cases e2
                      · refine (E2.out _).mono ?_
                        rintro e y43 ⟨rfl, hY43⟩
                        have q43 := q42.trans (hY43.mono q42.size)
                        have r43 := HS.out _ q43
                        clear r42
                        go_wp2_with fail
                        go_round
                        case rel => exact ⟨i2 + 1, by omega, by go_num, hBs.trans (q43.mono hBs.size)⟩
                        case measure => simp [intOf]; omega
                      · refine (E2.out _).mono ?_
                        rintro e y43 ⟨rfl, hY43⟩
                        have q43 := q42.trans (hY43.mono q42.size)
                        have r43 := HS.out _ q43
                        clear r42
                        go_wp2_with fail
                        go_round
                        case rel => exact ⟨i2 + 1, by omega, by go_num, hBs.trans (q43.mono hBs.size)⟩
                        case measure => simp [intOf]; omega
                    · go_wp2_with fail
                      refine (C2.out _).mono ?_
                      rintro e y42 ⟨rfl, hY42⟩
                      have q42 := q41.trans (hY42.mono q41.size)
                      have r42 := HS.out _ q42
                      clear r41
                      go_wp2_with fail
                      cases e2
                      · refine (E2.out _).mono ?_
                        rintro e y43 ⟨rfl, hY43⟩
                        have q43 := q42.trans (hY43.mono q42.size)
                        have r43 := HS.out _ q43
                        clear r42
                        go_wp2_with fail
                        go_round
                        case rel => exact ⟨i2 + 1, by omega, by go_num, hBs.trans (q43.mono hBs.size)⟩
                        case measure => simp [intOf]; omega
                      · refine (E2.out _).mono ?_
                        rintro e y43 ⟨rfl, hY43⟩
                        have q43 := q42.trans (hY43.mono q42.size)
                        have r43 := HS.out _ q43
                        clear r42
                        go_wp2_with fail
                        go_round
                        case rel => exact ⟨i2 + 1, by omega, by go_num, hBs.trans (q43.mono hBs.size)⟩
                        case measure => simp [intOf]; omega
            · go_wp2_with fail
              go_round
              case rel => exact ⟨i + 1, by omega, by go_num, hBr.trans (hBs.mono hBr.size)⟩
              case measure => simp [intOf]; omega
        · obtain rfl : i = 3 := by omega
          go_wp2_with fail
          go_ret
          exact ⟨rfl, HBx.out.trans (hBr.mono HBx.out.size)⟩
    · have g0 : ((E : Int) == 0) = false := by rw [beq_eq_false_iff_ne]; exact he
      have hpw2 : w.heap.size ≤ w7.heap.size := HB7.out.size
      have hO8 := HO1.out
      have HBx := HB7
      have HL : Hid (∀ (i : Nat) (u : JtL), [(⟨⟨av, aw, al, ae, ak⟩, ⟨bv, bw, bl, be, bk⟩, t⟩ : JtL)][i]? = some u → u.ok) := fun i u hu => by
        have hm := List.mem_of_getElem? hu
        simp only [List.mem_cons, List.not_mem_nil, or_false] at hm
        subst hm
        exact HOK.out
      have HM := Lib.hid (HM1.out (by simp))
      obtain ⟨pb, hA5, hpb, hnn, hAt⟩ := hO8.at_ (Nat.succ_pos _)
      clear hnn
      have hA6 := Option.some.inj hA5
      have hpb2 : p1 = pb := congrArg Addr.block hA6
      subst hpb2
      have HA := Lib.hid hAt
      generalize hLL : [(⟨⟨av, aw, al, ae, ak⟩, ⟨bv, bw, bl, be, bk⟩, t⟩ : JtL)] = L at *
      have hk : L.length = 1 := by rw [← hLL]; rfl
      clear hO8 hAt hLL HS7 HM1 HM3 HOK HON HOF MN MF CF hA5 hA6 s0 HO1 he hmn
      go_wp2_with fail
      go_loopw [12] (fun iv wr => ∃ i : Nat, i ≤ 1 ∧ iv = .int .i64 (i : Int) ∧ Below w7.heap.size w7 wr) (fun iv _ => 1 - (intOf iv).toNat)
      case atStart => exact ⟨0, Nat.zero_le _, rfl, Below.refl _ _⟩
      case round =>
        obtain ⟨i, hi, rfl, hBr⟩ := hrel
        by_cases hlt : i < 1
        · have hlti : (i : Int) < 1 := by omega
          obtain ⟨u, hu⟩ : ∃ u, L[i]? = some u := ⟨L[i]'(by rw [hk]; exact hlt), List.getElem?_eq_getElem _⟩
          have hAu := HA.out i u hu
          have E1 := Lib.hid (EL.out u (HL.out i u hu) xm hx2)
          have HMu := Lib.hid (fun k y hy => HM.out i k u y hu hy)
          clear hu
          obtain ⟨⟨pv, pw, pl, pe, pk⟩, ⟨qv, qw, ql, qe, qk⟩, pt⟩ := u
          go_wp2_with fail
          generalize wr = w8 at *
          go_loopw [13] (fun kv wr => ∃ i2 : Nat, i2 ≤ 1 ∧ kv = .int .i64 (i2 : Int) ∧ Below w8.heap.size w8 wr) (fun kv _ => 1 - (intOf kv).toNat)
          case atStart => exact ⟨0, Nat.zero_le _, rfl, Below.refl _ _⟩
          case round =>
            obtain ⟨i2, hi2, rfl, hBs⟩ := hrel
            by_cases hlt2 : i2 < 1
            · have hlt2i : (i2 : Int) < 1 := by omega
              obtain ⟨v, hv⟩ : ∃ v, L[i2]? = some v := ⟨L[i2]'(by rw [hk]; exact hlt2), List.getElem?_eq_getElem _⟩
              have hAv := HA.out i2 v hv
              have C2 := Lib.hid (CO.out v (HL.out i2 v hv) ym hy2)
              have E2 := Lib.hid (EL.out v (HL.out i2 v hv) ym hy2)
              have HMv := Lib.hid (HMu.out i2 v hv)
              clear hv
              obtain ⟨⟨rv, rx, rl, re, rk⟩, ⟨sv, sw, sl, se, sk⟩, vt⟩ := v
              have hbb := hBr.trans (hBs.mono hBr.size)
              have q0 := Below.refl wr.heap.size wr
              have HS : Hid (∀ wq, Below wr.heap.size wr wq → (wq.cell? ⟨p1, i * 11, none⟩ = some (.int .u16 (pv : Int)) ∧ wq.cell? ⟨p1, i * 11 + 1, none⟩ = some (.int .u16 (pw : Int)) ∧ wq.cell? ⟨p1, i * 11 + 2, none⟩ = some (.int .u16 (pl : Int)) ∧ wq.cell? ⟨p1, i * 11 + 3, none⟩ = some (.int .i64 pe) ∧ wq.cell? ⟨p1, i * 11 + 4, none⟩ = some (.int .i64 pk) ∧ wq.cell? ⟨p1, i * 11 + 5, none⟩ = some (.int .u16 (qv : Int)) ∧ wq.cell? ⟨p1, i * 11 + 6, none⟩ = some (.int .u16 (qw : Int)) ∧ wq.cell? ⟨p1, i * 11 + 7, none⟩ = some (.int .u16 (ql : Int)) ∧ wq.cell? ⟨p1, i * 11 + 8, none⟩ = some (.int .i64 qe) ∧ wq.cell? ⟨p1, i * 11 + 9, none⟩ = some (.int .i64 qk) ∧ wq.cell? ⟨p1, i * 11 + 10, none⟩ = some (.bool pt)) ∧ (wq.cell? ⟨p1, i2 * 11, none⟩ = some (.int .u16 (rv : Int)) ∧ wq.cell? ⟨p1, i2 * 11 + 1, none⟩ = some (.int .u16 (rx : Int)) ∧ wq.cell? ⟨p1, i2 * 11 + 2, none⟩ = some (.int .u16 (rl : Int)) ∧ wq.cell? ⟨p1, i2 * 11 + 3, none⟩ = some (.int .i64 re) ∧ wq.cell? ⟨p1, i2 * 11 + 4, none⟩ = some (.int .i64 rk) ∧ wq.cell? ⟨p1, i2 * 11 + 5, none⟩ = some (.int .u16 (sv : Int)) ∧ wq.cell? ⟨p1, i2 * 11 + 6, none⟩ = some (.int .u16 (sw : Int)) ∧ wq.cell? ⟨p1, i2 * 11 + 7, none⟩ = some (.int .u16 (sl : Int)) ∧ wq.cell? ⟨p1, i2 * 11 + 8, none⟩ = some (.int .i64 se) ∧ wq.cell? ⟨p1, i2 * 11 + 9, none⟩ = some (.int .i64 sk) ∧ wq.cell? ⟨p1, i2 * 11 + 10, none⟩ = some (.bool vt))) := fun wq hq => ⟨at11 (hAu.below hpb (hbb.trans (hq.mono hbb.size))), at11 (hAv.below hpb (hbb.trans (hq.mono hbb.size)))⟩
              clear hAv hbb
              have r0 := HS.out _ q0
              unfold jtV at C2 E2 E1
              dsimp only at C2 E2 E1
              by_cases far : (i2 : Int) + 1 < i ∨ (i : Int) + 1 < i2
              · exact absurd far (by omega)
              · have g1 : decide ((1 : Int) < (i : Int) - i2) = false := decide_eq_false (by omega)
                have g2 : decide ((1 : Int) < (i2 : Int) - i) = false := decide_eq_false (by omega)
                have near1 : i ≤ i2 + 1 := by omega
                have near2 : i2 ≤ i + 1 := by omega
                have HN := Lib.hid (HMv.out near1 near2)
                clear far near1 near2
                generalize elJ ⟨⟨pv, pw, pl, pe, pk⟩, ⟨qv, qw, ql, qe, qk⟩, pt⟩ xm = e1 at *
                generalize coJ ⟨⟨rv, rx, rl, re, rk⟩, ⟨sv, sw, sl, se, sk⟩, vt⟩ ym = c2 at *
                generalize elJ ⟨⟨rv, rx, rl, re, rk⟩, ⟨sv, sw, sl, se, sk⟩, vt⟩ ym = e2 at *
                generalize xm &&& ym = z at *
                cases e1
                · go_wp2_with fail
                  refine (E1.out _).mono ?_
                  rintro e y41 ⟨rfl, hY41⟩
                  have q41 := q0.trans (hY41.mono q0.size)
                  have r41 := HS.out _ q41
                  clear r0
                  go_wp2_with fail
                  go_round
                  case rel => exact ⟨i2 + 1, by omega, by go_num, hBs.trans (q41.mono hBs.size)⟩
                  case measure => simp [intOf]; omega
                · by_cases hz : z = 0
                  · have hc2 : c2 = false := by
                      cases c2 with
                      | false => rfl
                      | true => exact absurd hz (HN.out rfl (.inl rfl))
                    have he2 : e2 = false := by
                      cases e2 with
                      | false => rfl
                      | true => exact absurd hz (HN.out rfl (.inr rfl))
                    subst hc2 he2
                    have g3 : ((z : Int) == 0) = true := by rw [beq_iff_eq]; omega
                    clear hz HN
                    go_wp2_with fail
                    refine (E1.out _).mono ?_
                    rintro e y41 ⟨rfl, hY41⟩
                    have q41 := q0.trans (hY41.mono q0.size)
                    have r41 := HS.out _ q41
                    clear r0
                    go_wp2_with fail
                    refine (C2.out _).mono ?_
                    rintro e y42 ⟨rfl, hY42⟩
                    have q42 := q41.trans (hY42.mono q41.size)
                    have r42 := HS.out _ q42
                    clear r41
                    go_wp2_with fail
                    refine (E2.out _).mono ?_
                    rintro e y43 ⟨rfl, hY43⟩
                    have q43 := q42.trans (hY43.mono q42.size)
                    have r43 := HS.out _ q43
                    clear r42
                    go_wp2_with fail
                    go_round
                    case rel => exact ⟨i2 + 1, by omega, by go_num, hBs.trans (q43.mono hBs.size)⟩
                    case measure => simp [intOf]; omega
                  · have g3 : ((z : Int) == 0) = false := by rw [beq_eq_false_iff_ne]; omega
                    clear hz HN
                    go_wp2_with fail
                    refine (E1.out _).mono ?_
                    rintro e y41 ⟨rfl, hY41⟩
                    have q41 := q0.trans (hY41.mono q0.size)
                    have r41 := HS.out _ q41
                    clear r0
                    go_wp2_with fail
                    cases c2
                    · go_wp2_with fail
                      refine (C2.out _).mono ?_
                      rintro e y42 ⟨rfl, hY42⟩
                      have q42 := q41.trans (hY42.mono q41.size)
                      have r42 := HS.out _ q42
                      clear r41
                      go_wp2_with fail
                      cases e2
                      · refine (E2.out _).mono ?_
                        rintro e y43 ⟨rfl, hY43⟩
                        have q43 := q42.trans (hY43.mono q42.size)
                        have r43 := HS.out _ q43
                        clear r42
                        go_wp2_with fail
                        go_round
                        case rel => exact ⟨i2 + 1, by omega, by go_num, hBs.trans (q43.mono hBs.size)⟩
                        case measure => simp [intOf]; omega
                      · refine (E2.out _).mono ?_
                        rintro e y43 ⟨rfl, hY43⟩
                        have q43 := q42.trans (hY43.mono q42.size)
                        have r43 := HS.out _ q43
                        clear r42
                        go_wp2_with fail
                        go_round
                        case rel => exact ⟨i2 + 1, by omega, by go_num, hBs.trans (q43.mono hBs.size)⟩
                        case measure => simp [intOf]; omega
                    · go_wp2_with fail
                      refine (C2.out _).mono ?_
                      rintro e y42 ⟨rfl, hY42⟩
                      have q42 := q41.trans (hY42.mono q41.size)
                      have r42 := HS.out _ q42
                      clear r41
                      go_wp2_with fail
                      cases e2
                      · refine (E2.out _).mono ?_
                        rintro e y43 ⟨rfl, hY43⟩
                        have q43 := q42.trans (hY43.mono q42.size)
                        have r43 := HS.out _ q43
                        clear r42
                        go_wp2_with fail
                        go_round
                        case rel => exact ⟨i2 + 1, by omega, by go_num, hBs.trans (q43.mono hBs.size)⟩
                        case measure => simp [intOf]; omega
                      · refine (E2.out _).mono ?_
                        rintro e y43 ⟨rfl, hY43⟩
                        have q43 := q42.trans (hY43.mono q42.size)
                        have r43 := HS.out _ q43
                        clear r42
                        go_wp2_with fail
                        go_round
                        case rel => exact ⟨i2 + 1, by omega, by go_num, hBs.trans (q43.mono hBs.size)⟩
                        case measure => simp [intOf]; omega
            · go_wp2_with fail
              go_round
              case rel => exact ⟨i + 1, by omega, by go_num, hBr.trans (hBs.mono hBr.size)⟩
              case measure => simp [intOf]; omega
        · obtain rfl : i = 1 := by omega
          go_wp2_with fail
          go_ret
          exact ⟨rfl, HBx.out.trans (hBr.mono HBx.out.size)⟩
theorem holds_walk (j : JtL) (to : CfL) (x y : Int) (w : World) (h : j.ok) (ht : to.ok) (w1 : (Lit.int .u16 x).wf = true) (w2 : (Lit.int .u16 y).wf = true) :
    Calls Try.prog 6 #[jtV j, cfV to, .int .u16 x, .int .u16 y] w fun e w' => e = .returned (.bool true) ∧ Below w.heap.size w w' := by
  obtain ⟨x, rfl, hx⟩ := u16_wf w1
  obtain ⟨y, rfl, hy⟩ := u16_wf w2
  exact holds_nat j to x y w h ht hx hy
end Go.Proofs.Ytdpfpcdoocampaa.law10
