/- What the program's own disk comes to: New, Append, Sync, Clear, Read, Arm, Power, Dead, Lives, Steps, Copy. Conditions: those that each theorem names. -/
import Derived.Test.YtafdgibkhefplaaPow
import Derived.Deep.RegionHeld3
namespace Go.Proofs.Ytafdgibkhefplaa.disk
open Go.RowKit Go.Proofs.Ytafdgibkhefplaa.kit Go.Proofs.Ytafdgibkhefplaa.nums Go.Proofs.Ytafdgibkhefplaa.ds Go.Proofs.Ytafdgibkhefplaa.map2
set_option linter.unusedVariables false

theorem grown_trans2 {w w' w'' : World} {k : Option Nat} (h : w.grownBy w' k) (h' : w'.grownBy w'' k) : w.grownBy w'' k :=
  ⟨h'.os.trans h.os, h'.tape.trans h.tape, h'.output.trans h.output, Nat.le_trans h.size h'.size, fun j hj hne => (h'.block j (Nat.lt_of_lt_of_le hj h.size) hne).trans (h.block j hj hne)⟩
theorem blk_grown {E : TypeId} {w w' : World} {g m : Nat} {cs : List Value} (h : Blk E w g cs) (hG : w.grownBy w' (some m)) (hne : g ≠ m) : Blk E w' g cs :=
  (hG.block g h.lt (by simpa using hne)).trans h
theorem new_any (w : World) : Calls Try.prog 11 #[] w fun e w' => ∃ a fp, e = .returned (.pointer (some ⟨a, 0, none⟩)) ∧ IsDisk w' a DS.fresh fp ∧ (∀ k, fp k → w.heap.size ≤ k) ∧ Below w.heap.size w w' := by
  have hmk := run_make2 (P := Try.prog) w under_map
  go_enter Try.func11, Try.ntmps11
  go_wp2_with fail
  generalize hw2 : World.alloc _ _ = w2
  have hs1 : (w.alloc (.map #[] 0)).heap.size = w.heap.size + 1 := by show (w.heap.push _).size = _; simp
  have hm2 : w2.heap[w.heap.size]? = some (.map #[] 0) := by
    rw [← hw2, (MapKept.heap_alloc _ _).2 _ (by omega)]
    exact (MapKept.heap_alloc _ _).1
  have hb2 : Blk 70 w2 (w.heap.size + 1) (cellsD w.heap.size DS.fresh (-1)) := by
    rw [← hw2]
    have := (MapKept.heap_alloc (w.alloc (.map #[] 0)) (Obj.cells (cellsD w.heap.size DS.fresh (-1)).toArray 70)).1
    rw [hs1] at this
    exact this
  have hB2 : Below w.heap.size w w2 := by
    rw [← hw2]
    exact ((Below.refl _ _).alloc (Nat.le_refl _) _).alloc (by omega) _
  have c0 : w2.cell? ⟨w.heap.size + 1, 0, none⟩ = some (.map (some w.heap.size)) := by rw [hb2.cell]; rfl
  have hS2 : w.heap.size + 1 < w2.heap.size := hb2.lt
  generalize hg : w.heap.size = g at *
  clear hw2 hmk hs1
  refine wp_loop_rounds 3 ?_
  rw [rounds_succ]
  go_wp2_with (at_mapUpdate; refine wpList_put _ rfl _ _ _ _ rfl _ _ _ rfl rfl rfl _ (run_first hm2 under_map Try.underlying3 _) ?_; rintro w3 ⟨hm3, hG3⟩)
  have hb3 := blk_grown hb2 hG3 (by omega)
  have c3 : w3.cell? ⟨g + 1, 0, none⟩ = some (.map (some g)) := by rw [hb3.cell]; rfl
  rw [rounds_succ]
  go_wp2_with (at_mapUpdate; refine wpList_put _ rfl _ _ _ _ rfl _ _ _ rfl rfl rfl _ (run_second hm3 under_map Try.underlying3 _) ?_; rintro w4 ⟨hm4, hG4⟩)
  have hb4 := blk_grown hb3 hG4 (by omega)
  rw [rounds_succ]
  go_wp2_with fail
  go_ret
  refine ⟨g + 1, _, rfl, ⟨g, -1, .slice none 0 0, .slice none 0 0, ⟨hb4, hm4, Own.nil _ _ _, Own.nil _ _ _, fun k hk => by simp [Value.ownBlock] at hk, .inr ⟨by omega, rfl⟩, by omega, by omega⟩, rfl⟩, ?_, ?_⟩
  · rintro k (rfl | rfl | e | e)
    · omega
    · omega
    · simp [Value.ownBlock] at e
    · simp [Value.ownBlock] at e
  · rw [hg]
    exact (hB2.grown hG3 (by omega) (fun k hk => by cases hk; omega)).grown hG4 (by have := hG3.size; omega) (fun k hk => by cases hk; omega)
theorem clear_any (a : Nat) (S : DS) (fp : Nat → Prop) (w : World) (h : IsDisk w a S fp) (hS : S.Good) (hs : S.stepped ≤ 1000000) (hp : S.powers ≤ 1000000) (f : Int) : Calls Try.prog 55 #[.pointer (some ⟨a, 0, none⟩), .int .i64 f] w (RetD w a fp (S.clearS f) (.int .i64 (S.clearE f))) := by
  obtain ⟨m, z, xa, xb, h, rfl⟩ := h
  have HI := Lib.hid h
  have CS := Lib.hid (step_any a S m z xa xb f 0 w h hS hs (by omega))
  have hE := clear_e (f := f) hS
  by_cases hx : DS.stE S f 0 = 0
  · have hf := may_ok (stE_zero hx).1
    have HS := Lib.hid (clear_fine hx)
    rw [stS_fine hx, hx] at CS
    rw [hx] at hE
    have HE := Lib.hid hE
    clear hE hx h hS hs hp
    go_enter Try.func55, Try.ntmps55
    go_wp2_with fail
    refine CS.out.mono ?_
    rintro e w1 ⟨rfl, ⟨z', h1⟩, hG⟩
    have c0 := h1.c0
    have hput := fun v => run_put h1.map under_map Try.underlying3 v hf
    have H1 := Lib.hid h1
    clear h1
    go_wp2_with (at_mapUpdate; refine wpList_put _ rfl _ _ _ _ rfl _ _ _ rfl rfl rfl _ (hput _) ?_; rintro w2 ⟨hM2, hG2⟩)
    go_ret
    rw [HE.out, HS.out]
    obtain ⟨hI2, hC2⟩ := H1.out.put hf (v := .slice none 0 0) (d := 0) (l := []) ⟨hG2.os, hG2.tape, hG2.output, hG2.size, fun k hk hkm _ => hG2.block k hk (by simpa using hkm)⟩ hM2 (Own.nil _ _ _) (fun k e => by simp [Value.ownBlock] at e)
    exact ⟨_, rfl, ⟨m, z', _, _, hI2, rfl⟩, (Chg.of_grown hG (.inl rfl)).trans hC2⟩
  · have HS := Lib.hid (clear_not hS hx)
    obtain ⟨x, hxe⟩ : ∃ x, DS.stE S f 0 = x := ⟨_, rfl⟩
    rw [hxe] at hE hx CS
    have HE := Lib.hid hE
    have hxx : (x == 0) = false := by simpa using hx
    clear hE hxe hx h hS hs hp
    go_enter Try.func55, Try.ntmps55
    go_wp2_with fail
    refine CS.out.mono ?_
    rintro e w1 ⟨rfl, ⟨z', h1⟩, hG⟩
    go_wp2_with fail
    go_ret
    rw [HE.out, HS.out]
    exact ⟨_, rfl, ⟨m, z', xa, xb, h1, rfl⟩, Chg.of_grown hG (.inl rfl)⟩
theorem sync_any (a : Nat) (S : DS) (fp : Nat → Prop) (w : World) (h : IsDisk w a S fp) (hS : S.Good) (hs : S.stepped ≤ 1000000) (hp : S.powers ≤ 1000000) (f : Int) : Calls Try.prog 29 #[.pointer (some ⟨a, 0, none⟩), .int .i64 f] w (RetD w a fp (S.syncS f) (.int .i64 (S.syncE f))) := by
  obtain ⟨m, z, xa, xb, h, rfl⟩ := h
  have HI := Lib.hid h
  have CS := Lib.hid (step_any a S m z xa xb f 0 w h hS hs (by omega))
  have hE := sync_e (f := f) hS
  by_cases hx : DS.stE S f 0 = 0
  · have hf := may_ok (stE_zero hx).1
    have HS := Lib.hid (sync_fine hx)
    rw [stS_fine hx, hx] at CS
    rw [hx] at hE
    have HE := Lib.hid hE
    clear hE hx h hS hs hp
    go_enter Try.func29, Try.ntmps29
    go_wp2_with fail
    refine CS.out.mono ?_
    rintro e w1 ⟨rfl, ⟨z', h1⟩, hG⟩
    have c0 := h1.c0
    have hput := fun v => run_put h1.map under_map Try.underlying3 v hf
    obtain ⟨A, c, hv, hc1, hc2, hpk, hO⟩ := file_shape h1 hf
    have hl := run_look h1.map under_map Try.underlying3 hf
    rw [hv] at hl
    unfold fileV at hl
    have hfd := field0
    have H1 := Lib.hid h1
    have HO := Lib.hid hO
    clear h1 hv hO
    go_wp2_with (at_mapUpdate; refine wpList_put _ rfl _ _ _ _ rfl _ _ _ rfl rfl rfl _ (hput _) ?_; rintro w2 ⟨hM2, hG2⟩)
    go_ret
    rw [HE.out, HS.out]
    obtain ⟨hI2, hC2⟩ := H1.out.put hf (v := .slice A (S.step.file f).length c) (d := (S.step.file f).length) (l := S.step.file f) ⟨hG2.os, hG2.tape, hG2.output, hG2.size, fun k hk hkm _ => hG2.block k hk (by simpa using hkm)⟩ hM2
      (own_keep HO.out (fun k e => hG2.block k (HO.out.lt k e).2 (by
        intro e'
        cases e'
        rw [← hpk] at e
        rcases hf with rfl | rfl
        · exact H1.out.xam e
        · exact H1.out.xbm e))) (fun k e => .inl (by rw [hpk]; exact e))
    exact ⟨_, rfl, ⟨m, z', _, _, hI2, rfl⟩, (Chg.of_grown hG (.inl rfl)).trans hC2⟩
  · have HS := Lib.hid (sync_not hS hx)
    obtain ⟨x, hxe⟩ : ∃ x, DS.stE S f 0 = x := ⟨_, rfl⟩
    rw [hxe] at hE hx CS
    have HE := Lib.hid hE
    have hxx : (x == 0) = false := by simpa using hx
    clear hE hxe hx h hS hs hp
    go_enter Try.func29, Try.ntmps29
    go_wp2_with fail
    refine CS.out.mono ?_
    rintro e w1 ⟨rfl, ⟨z', h1⟩, hG⟩
    go_wp2_with fail
    go_ret
    rw [HE.out, HS.out]
    exact ⟨_, rfl, ⟨m, z', xa, xb, h1, rfl⟩, Chg.of_grown hG (.inl rfl)⟩
theorem arm_any (a : Nat) (S : DS) (fp : Nat → Prop) (w : World) (h : IsDisk w a S fp) (hS : S.Good) (hs : S.stepped ≤ 1000000) (hp : S.powers ≤ 1000000) (n : Int) (hn : -9223372036854775808 ≤ n ∧ n ≤ 9223372036854775807) : Calls Try.prog 17 #[.pointer (some ⟨a, 0, none⟩), .int .i64 n] w (RetD w a fp (S.armS n) (.tuple #[])) := by
  obtain ⟨m, z, xa, xb, h, rfl⟩ := h
  have C0 := Lib.hid (none_any a m w h.c0)
  have hfr := fun i => h.blk.frozen i
  have c2 := h.c2
  have HI := Lib.hid h
  clear h hS hs hp
  go_enter Try.func17, Try.ntmps17
  go_wp2_with fail
  refine C0.out.mono ?_
  rintro e w1 ⟨rfl, rfl⟩
  go_wp2_with fail
  go_end0
  refine ⟨_, rfl, ⟨m, n, xa, xb, HI.out.set 2 _ (by simp [cellsD, DS.armS]) rfl rfl rfl rfl ?_ hn, rfl⟩, Chg.of_grown (below_of_set (Below.refl _ _) HI.out.blk.lt _ _) (.inl rfl)⟩
  rcases Int.lt_or_le n 0 with h0 | h0
  · exact .inr ⟨h0, by show max n (-1) = -1; omega⟩
  · exact .inl ⟨h0, by show max n (-1) = n; omega⟩
theorem dead_any (a : Nat) (S : DS) (fp : Nat → Prop) (w : World) (h : IsDisk w a S fp) (hS : S.Good) (hs : S.stepped ≤ 1000000) (hp : S.powers ≤ 1000000) : Calls Try.prog 19 #[.pointer (some ⟨a, 0, none⟩)] w fun e w' => e = .returned (.bool S.off) ∧ ∃ n, w' = w.drewN n := by
  obtain ⟨m, z, xa, xb, h, rfl⟩ := h
  have C0 := Lib.hid (none_any a m w h.c0)
  have c1 := h.c1
  have c3 := h.c3
  have c4 := h.c4
  clear h hS hs hp
  go_enter Try.func19, Try.ntmps19
  go_wp2_with fail
  refine C0.out.mono ?_
  rintro e w1 ⟨rfl, rfl⟩
  go_wp2_with fail
  go_ret
  exact ⟨rfl, 0, rfl⟩
theorem lives_any (a : Nat) (S : DS) (fp : Nat → Prop) (w : World) (h : IsDisk w a S fp) (hS : S.Good) (hs : S.stepped ≤ 1000000) (hp : S.powers ≤ 1000000) : Calls Try.prog 48 #[.pointer (some ⟨a, 0, none⟩)] w fun e w' => e = .returned (.int .i64 S.powers) ∧ ∃ n, w' = w.drewN n := by
  obtain ⟨m, z, xa, xb, h, rfl⟩ := h
  have C0 := Lib.hid (none_any a m w h.c0)
  have c1 := h.c1
  have c3 := h.c3
  have c4 := h.c4
  clear h hS hs hp
  go_enter Try.func48, Try.ntmps48
  go_wp2_with fail
  refine C0.out.mono ?_
  rintro e w1 ⟨rfl, rfl⟩
  go_wp2_with fail
  go_ret
  exact ⟨rfl, 0, rfl⟩
theorem read_any (a : Nat) (S : DS) (fp : Nat → Prop) (w : World) (h : IsDisk w a S fp) (hS : S.Good) (hs : S.stepped ≤ 1000000) (hp : S.powers ≤ 1000000) (f : Int) : Calls Try.prog 45 #[.pointer (some ⟨a, 0, none⟩), .int .i64 f] w fun e w' => ∃ A n c, e = .returned (.tuple #[.slice A n c, .int .i64 (S.may f)]) ∧ (S.readL f).length = n ∧ Own 5 w' w.heap.size (.slice A n c) (S.readL f) ∧ Below w.heap.size w w' := by
  obtain ⟨m, z, xa, xb, h, rfl⟩ := h
  have C1 := Lib.hid (check_any a S m z xa xb f w h)
  by_cases hm : S.may f = 0
  · have hf := may_ok hm
    have HR := Lib.hid (show S.readL f = S.file f by unfold DS.readL; rw [if_neg (by omega)])
    have hlen : (S.file f).length ≤ 4194304 := by unfold DS.file; split; exact hS.na; exact hS.nb
    have HM := Lib.hid hm
    rw [hm] at C1
    have HI := Lib.hid h
    obtain ⟨A, c, hv, hc1, hc2, hpk, hO⟩ := file_shape h hf
    have hfd := field0
    clear h hm hS hs hp
    go_enter Try.func45, Try.ntmps45
    go_wp2_with fail
    refine C1.out.mono ?_
    rintro e w1 ⟨rfl, hB⟩
    have h1 := HI.out.below hB
    have hl := run_look h1.map under_map Try.underlying3 hf
    rw [hv] at hl
    unfold fileV at hl
    have c0 := h1.c0
    have hO1 := hO.below hB
    obtain ⟨A', c', hsl, _, _, hR⟩ := hO1.slice
    simp only [Value.slice.injEq] at hsl
    obtain ⟨rfl, -, rfl⟩ := hsl
    have HW := Lib.hid hB
    clear h1 hO hO1 hB hpk hv
    generalize hL : (S.file f).length = L at *
    have CO := Lib.hid (own_any A L c L (S.file f) w1.heap.size w1 hR (Nat.le_refl _) hc1 (by omega) hc2)
    clear hR
    go_wp2_with fail
    refine CO.out.mono ?_
    rintro e w2 ⟨A2, c2, rfl, hl2, hO2, hB2⟩
    go_wp2_with fail
    go_ret2
    rw [HM.out, HR.out]
    rw [List.take_of_length_le (by omega)] at hO2
    exact ⟨A2, L, c2, rfl, hL, hO2.more HW.out.size, HW.out.trans (hB2.mono HW.out.size)⟩
  · have HR := Lib.hid (show S.readL f = [] by unfold DS.readL; rw [if_pos hm])
    obtain ⟨x, hx⟩ : ∃ x, S.may f = x := ⟨_, rfl⟩
    rw [hx] at hm C1
    have HX := Lib.hid hx
    have hxx : (x != 0) = true := by simpa using hm
    clear hx hm h hS hs hp
    go_enter Try.func45, Try.ntmps45
    go_wp2_with fail
    refine C1.out.mono ?_
    rintro e w1 ⟨rfl, hB⟩
    go_wp2_with fail
    go_ret2
    rw [HX.out, HR.out]
    exact ⟨none, 0, 0, rfl, rfl, Own.nil _ _ _, hB⟩
set_option maxRecDepth 100000 in
set_option maxHeartbeats 1000000 in
theorem append_any (a : Nat) (S : DS) (fp : Nat → Prop) (w : World) (h : IsDisk w a S fp) (hS : S.Good) (hs : S.stepped ≤ 1000000) (hp : S.powers ≤ 1000000) (f : Int) (A : Option Addr) (n c : Nat) (l : List Int) (hR : Rd w w.heap.size A n l) (hY : Byt l) (hn : n ≤ 1099511627776) (hnc : n ≤ c) (hcm : c ≤ maxLen) (hA : 0 < n → ∀ b o, A = some ⟨b, o, none⟩ → ¬ fp b) :
    Calls Try.prog 31 #[.pointer (some ⟨a, 0, none⟩), .int .i64 f, .slice A n c] w (RetD w a fp (S.appS f l) (.int .i64 (S.appE f l))) := by
  have hln : l.length = n := hR.1
  obtain ⟨m, z, xa, xb, h, rfl⟩ := h
  have HI := Lib.hid h
  have CS := Lib.hid (step_any a S m z xa xb f n w h hS hs hn)
  have hE := app_e (S := S) (f := f) l
  rw [hln] at hE
  by_cases hx : DS.stE S f n = 0
  · have hf := may_ok (stE_zero hx).1
    have HS := Lib.hid (app_fine2 (l := l) (by rw [hln]; exact hx))
    have HG := Lib.hid (hS.step hs)
    rw [stS_fine hx, hx] at CS
    rw [hx] at hE
    have HE := Lib.hid hE
    have hle : (S.step.file f).length + n ≤ 4194304 := by
      have h1 := (stE_zero hx).2.1
      unfold DS.full at h1
      rw [DS.step_file]
      omega
    clear hE hx h hS hs hp
    go_enter Try.func31, Try.ntmps31
    go_wp2_with fail
    refine CS.out.mono ?_
    rintro e w1 ⟨rfl, ⟨z', h1⟩, hG⟩
    have c0 := h1.c0
    obtain ⟨A1, c1, hv, hc1, hc2, hpk, hO⟩ := file_shape h1 hf
    have hl := run_look h1.map under_map Try.underlying3 hf
    rw [hv] at hl
    unfold fileV at hl
    have hR1 : Rd w1 w.heap.size A n l := by
      refine ⟨hR.1, fun hpos => ?_⟩
      obtain ⟨b, o, e, hb, hc⟩ := hR.2 hpos
      refine ⟨b, o, e, hb, fun j hj => ?_⟩
      rw [World.cell?_of_block (a := ⟨b, o + j, none⟩) (hG.block b hb (fun e' => hA hpos b o e (by cases e'; exact .inl rfl)))]
      exact hc j hj
    have H1 := Lib.hid h1
    have HO := Lib.hid hO
    have HV := Lib.hid hv
    have hm1 := h1.map
    clear h1 hv hO
    generalize hF : S.step.file f = F at *
    generalize hd : S.step.lasts f = d at *
    go_wp2_with fail
    have hB2 : Below w1.heap.size w1 (w1.alloc (.cells #[.slice A1 F.length c1, .int .i64 d] 72)).drew := ((Below.refl _ _).alloc (Nat.le_refl _) _).drew
    have hb2 : Blk 72 (w1.alloc (.cells #[.slice A1 F.length c1, .int .i64 d] 72)).drew w1.heap.size [.slice A1 F.length c1, .int .i64 d] := (MapKept.heap_alloc _ _).1
    generalize w1.alloc (.cells #[.slice A1 F.length c1, .int .i64 d] 72) = w2 at *
    have hO2 := HO.out.below hB2
    have hI2 := H1.out.below hB2
    have hR2 : Rd w2.drew w.heap.size A n l := hR1.below (hB2.mono hG.size)
    have HGR := Lib.hid (run_grew (P := Try.prog) w2.drew 35 35 5 Try.underlying35 bytes.info5 A1 F.length c1 F rfl hO2 w.heap.size A n c l hR2 (by omega))
    have hs2 : w2.drew.cell? ⟨a, 0, none⟩ = some (.map (some m)) ∧ w2.drew.cell? ⟨w1.heap.size, 0, none⟩ = some (.slice A1 F.length c1) ∧ w2.drew.cell? ⟨w1.heap.size, 1, none⟩ = some (.int .i64 d) := ⟨hI2.c0, by rw [hb2.cell]; rfl, by rw [hb2.cell]; rfl⟩
    have hga : w1.heap.size ≠ a := by have := H1.out.blk.lt; omega
    have hgm : w1.heap.size ≠ m := by have := hm1.lt; omega
    have HK1 := Lib.hid (show ∀ v w5, Grew 5 w2.drew (.slice A1 F.length c1) (F.length + n) (F ++ l) v w5 → w5.cell? ⟨a, 0, none⟩ = some (.map (some m)) ∧ w5.cell? ⟨w1.heap.size, 0, none⟩ = some (.slice A1 F.length c1) ∧ w5.cell? ⟨w1.heap.size, 1, none⟩ = some (.int .i64 d) from fun v w5 ⟨A5, c5, _, _, hG5, _⟩ =>
      ⟨cell_grown hG5 hs2.1 (own_not_blk (by decide) hO2 hI2.blk), cell_grown hG5 hs2.2.1 (own_not_blk (by decide) hO2 hb2), cell_grown hG5 hs2.2.2 (own_not_blk (by decide) hO2 hb2)⟩)
    have HK2 := Lib.hid (show ∀ w5 w6 : World, (w5.cell? ⟨a, 0, none⟩ = some (.map (some m)) ∧ w5.cell? ⟨w1.heap.size, 0, none⟩ = some (.slice A1 F.length c1) ∧ w5.cell? ⟨w1.heap.size, 1, none⟩ = some (.int .i64 d)) → w5.grownBy w6 (some m) → w6.cell? ⟨a, 0, none⟩ = some (.map (some m)) ∧ w6.cell? ⟨w1.heap.size, 0, none⟩ = some (.slice A1 F.length c1) ∧ w6.cell? ⟨w1.heap.size, 1, none⟩ = some (.int .i64 d) from fun w5 w6 ⟨s0, s1, s2⟩ hG6 =>
      ⟨cell_grown hG6 s0 (by simpa using H1.out.am.symm), cell_grown hG6 s1 (by simpa using hgm.symm), cell_grown hG6 s2 (by simpa using hgm.symm)⟩)
    have hmp : ∀ w5, w2.drew.grownBy w5 (Value.slice A1 F.length c1).ownBlock → IsMap w5 m (fileV xa S.step.la) (fileV xb S.step.lb) := fun w5 hG5 => hI2.map.keep (hG5.block m hI2.map.lt (fun e => own_not_map hO2 hI2.map e.symm))
    have HP := Lib.hid (show ∀ w5, w2.drew.grownBy w5 (Value.slice A1 F.length c1).ownBlock → ∀ v, ∃ w', (Instr.mapUpdate 68 (.map (some m)) (.int .i64 f) v).run Try.prog w5 = .ok () w' ∧ IsMap w' m (pick f v (fileV xa S.step.la)) (pick f (fileV xb S.step.lb) v) ∧ w5.grownBy w' (some m) from fun w5 hG5 v => run_put (hmp w5 hG5) under_map Try.underlying3 v hf)
    have HMP := Lib.hid hmp
    have HB2 := Lib.hid hB2
    clear hO2 hI2 hR2 hR1 hb2 hB2 hmp hR hl c0 hm1
    refine wp_region_held_drew (S := fun wq => wq.cell? ⟨a, 0, none⟩ = some (.map (some m)) ∧ wq.cell? ⟨w1.heap.size, 0, none⟩ = some (.slice A1 F.length c1) ∧ wq.cell? ⟨w1.heap.size, 1, none⟩ = some (.int .i64 d)) (by kernel_rfl) ?s_0 (fun hHeld => ?_)
    case s_0 => exact hs2
    clear hs2
    refine wpAnyH_take (i := 0) (oi := { dst := some 22, op := Go.Op.move (Go.Operand.tmp 0), type := 26, pos := "disk.go:40", after := #[], guard := none }) (v := ?v_0_1) rfl (by kernel_rfl) (by kernel_rfl) (by kernel_rfl) (fun _ _ _ h => h) (Or.inl ⟨by rfl, ?y_0_1⟩) (by assumption) ?_
    case y_0_1 => (intro wq hSw; (try dsimp only at hSw); go_simp; first | done | with_reducible rfl)
    try simp only [Act.put, List.setIfInBounds_toArray, List.set_cons_zero, List.set_cons_succ]
    refine wpAnyH_take (i := 1) (oi := { dst := some 23, op := Go.Op.nilCheck (Go.Operand.tmp 22), type := 0, pos := "disk.go:40", after := #[{ on := 0, ground := Go.Ground.data }], guard := none }) (v := ?v_1_1) rfl (by kernel_rfl) (by kernel_rfl) (by kernel_rfl) (fun _ _ _ h => h) (Or.inl ⟨by rfl, ?y_1_1⟩) (by assumption) ?_
    case y_1_1 => (intro wq hSw; (try dsimp only at hSw); go_simp; first | done | with_reducible rfl)
    try simp only [Act.put, List.setIfInBounds_toArray, List.set_cons_zero, List.set_cons_succ]
    refine wpAnyH_take (i := 2) (oi := { dst := some 24, op := Go.Op.fieldAddr 70 (Go.Operand.tmp 23) 0, type := 0, pos := "disk.go:40", after := #[{ on := 1, ground := Go.Ground.data }], guard := none }) (v := ?v_2_1) rfl (by kernel_rfl) (by kernel_rfl) (by kernel_rfl) (fun _ _ _ h => h) (Or.inl ⟨by rfl, ?y_2_1⟩) (by assumption) ?_
    case y_2_1 => (intro wq hSw; (try dsimp only at hSw); go_simp; first | done | with_reducible rfl)
    try simp only [Act.put, List.setIfInBounds_toArray, List.set_cons_zero, List.set_cons_succ]
    refine wpAnyH_take (i := 3) (oi := { dst := some 25, op := Go.Op.load 68 (Go.Operand.tmp 24), type := 68, pos := "disk.go:40", after := #[{ on := 2, ground := Go.Ground.data }], guard := none }) (v := ?v_3_1) rfl (by kernel_rfl) (by kernel_rfl) (by kernel_rfl) (fun _ _ _ h => h) (Or.inl ⟨by rfl, ?y_3_1⟩) (by assumption) ?_
    case y_3_1 => (intro wq hSw; (try dsimp only at hSw); go_simp; first | done | with_reducible rfl)
    try simp only [Act.put, List.setIfInBounds_toArray, List.set_cons_zero, List.set_cons_succ]
    refine wpAnyH_take (i := 4) (oi := { dst := some 26, op := Go.Op.move (Go.Operand.tmp 1), type := 3, pos := "disk.go:40", after := #[], guard := none }) (v := ?v_4_1) rfl (by kernel_rfl) (by kernel_rfl) (by kernel_rfl) (fun _ _ _ h => h) (Or.inl ⟨by rfl, ?y_4_1⟩) (by assumption) ?_
    case y_4_1 => (intro wq hSw; (try dsimp only at hSw); go_simp; first | done | with_reducible rfl)
    try simp only [Act.put, List.setIfInBounds_toArray, List.set_cons_zero, List.set_cons_succ]
    refine wpAnyH_take (i := 5) (oi := { dst := some 27, op := Go.Op.fieldAddr 72 (Go.Operand.tmp 8) 0, type := 0, pos := "disk.go:40", after := #[], guard := none }) (v := ?v_5_1) rfl (by kernel_rfl) (by kernel_rfl) (by kernel_rfl) (fun _ _ _ h => h) (Or.inl ⟨by rfl, ?y_5_1⟩) (by assumption) ?_
    case y_5_1 => (intro wq hSw; (try dsimp only at hSw); go_simp; first | done | with_reducible rfl)
    try simp only [Act.put, List.setIfInBounds_toArray, List.set_cons_zero, List.set_cons_succ]
    refine wpAnyH_take (i := 6) (oi := { dst := some 28, op := Go.Op.load 35 (Go.Operand.tmp 27), type := 35, pos := "disk.go:40", after := #[{ on := 5, ground := Go.Ground.data }], guard := none }) (v := ?v_6_1) rfl (by kernel_rfl) (by kernel_rfl) (by kernel_rfl) (fun _ _ _ h => h) (Or.inl ⟨by rfl, ?y_6_1⟩) (by assumption) ?_
    case y_6_1 => (intro wq hSw; (try dsimp only at hSw); go_simp; first | done | with_reducible rfl)
    try simp only [Act.put, List.setIfInBounds_toArray, List.set_cons_zero, List.set_cons_succ]
    refine wpAnyH_take (i := 7) (oi := { dst := some 29, op := Go.Op.move (Go.Operand.tmp 2), type := 35, pos := "disk.go:40", after := #[], guard := none }) (v := ?v_7_1) rfl (by kernel_rfl) (by kernel_rfl) (by kernel_rfl) (fun _ _ _ h => h) (Or.inl ⟨by rfl, ?y_7_1⟩) (by assumption) ?_
    case y_7_1 => (intro wq hSw; (try dsimp only at hSw); go_simp; first | done | with_reducible rfl)
    try simp only [Act.put, List.setIfInBounds_toArray, List.set_cons_zero, List.set_cons_succ]
    refine wpAnyH_take (i := 9) (oi := { dst := some 31, op := Go.Op.fieldAddr 72 (Go.Operand.tmp 8) 1, type := 0, pos := "disk.go:40", after := #[], guard := none }) (v := ?v_9_1) rfl (by kernel_rfl) (by kernel_rfl) (by kernel_rfl) (fun _ _ _ h => h) (Or.inl ⟨by rfl, ?y_9_1⟩) (by assumption) ?_
    case y_9_1 => (intro wq hSw; (try dsimp only at hSw); go_simp; first | done | with_reducible rfl)
    try simp only [Act.put, List.setIfInBounds_toArray, List.set_cons_zero, List.set_cons_succ]
    refine wpAnyH_take (i := 10) (oi := { dst := some 32, op := Go.Op.load 3 (Go.Operand.tmp 31), type := 3, pos := "disk.go:40", after := #[{ on := 9, ground := Go.Ground.data }], guard := none }) (v := ?v_10_1) rfl (by kernel_rfl) (by kernel_rfl) (by kernel_rfl) (fun _ _ _ h => h) (Or.inl ⟨by rfl, ?y_10_1⟩) (by assumption) ?_
    case y_10_1 => (intro wq hSw; (try dsimp only at hSw); go_simp; first | done | with_reducible rfl)
    try simp only [Act.put, List.setIfInBounds_toArray, List.set_cons_zero, List.set_cons_succ]
    refine wpAnyH_ready (rs := [8]) (by kernel_rfl) (by simp) ?_
    refine AllReadyH.cons (o := { dst := some 30, op := Go.Op.call { callee := Go.Callee.builtin Go.Builtin.append, args := #[Go.Operand.tmp 28, Go.Operand.tmp 29], argTypes := #[35, 35] }, type := 35, pos := "disk.go:40", after := #[{ on := 6, ground := Go.Ground.data }, { on := 7, ground := Go.Ground.data }], guard := none }) rfl (fun KQ hKQ => ?_) AllReadyH.nil
    refine step_append rfl _ _ 35 rfl _ _ rfl rfl _ HGR.out ?_
    rintro v w5 hgw
    have hs5 := HK1.out v w5 hgw
    obtain ⟨A5, c5, rfl, hO5, hG5, hF5⟩ := hgw
    refine hKQ.out _ _ ?s_8 (fun hHeld8 => ?_)
    case s_8 => exact hs5
    clear hKQ KQ
    try simp only [Act.put, List.setIfInBounds_toArray, List.set_cons_zero, List.set_cons_succ]
    refine wpAnyH_take (i := 11) (oi := { dst := some 33, op := Go.Op.build 72 #[(0, Go.Operand.tmp 30), (1, Go.Operand.tmp 32)], type := 72, pos := "disk.go:40", after := #[{ on := 8, ground := Go.Ground.data }, { on := 10, ground := Go.Ground.data }], guard := none }) (v := ?v_11_1) rfl (by kernel_rfl) (by kernel_rfl) (by kernel_rfl) (fun _ _ _ h => h) (Or.inl ⟨by rfl, ?y_11_1⟩) (by assumption) ?_
    case y_11_1 => (intro wq hSw; (try dsimp only at hSw); go_simp; first | done | with_reducible rfl)
    try simp only [Act.put, List.setIfInBounds_toArray, List.set_cons_zero, List.set_cons_succ]
    refine wpAnyH_ready (rs := [12]) (by kernel_rfl) (by simp) ?_
    refine AllReadyH.cons (o := { dst := none, op := Go.Op.mapUpdate 68 (Go.Operand.tmp 25) (Go.Operand.tmp 26) (Go.Operand.tmp 33), type := 0, pos := "disk.go:40", after := #[{ on := 3, ground := Go.Ground.data }, { on := 4, ground := Go.Ground.data }, { on := 11, ground := Go.Ground.data }, { on := 8, ground := Go.Ground.chain }, { on := 0, ground := Go.Ground.phase }, { on := 1, ground := Go.Ground.phase }, { on := 2, ground := Go.Ground.phase }, { on := 3, ground := Go.Ground.phase }, { on := 4, ground := Go.Ground.phase }, { on := 5, ground := Go.Ground.phase }, { on := 6, ground := Go.Ground.phase }, { on := 7, ground := Go.Ground.phase }, { on := 8, ground := Go.Ground.phase }, { on := 9, ground := Go.Ground.phase }, { on := 10, ground := Go.Ground.phase }, { on := 11, ground := Go.Ground.phase }], guard := none }) rfl (fun KQ hKQ => ?_) AllReadyH.nil
    refine step_put rfl _ _ _ _ rfl _ _ _ rfl rfl rfl _ (HP.out w5 hG5 _) ?_
    rintro w6 ⟨hM6, hG6⟩
    have hs6 := HK2.out w5 w6 hs5 hG6
    refine hKQ.out _ _ ?s_12 (fun hHeld12 => ?_)
    case s_12 => exact hs6
    clear hKQ KQ
    try simp only [Act.put]
    refine wpAnyH_done (by kernel_rfl) ?_ _
    go_wp2_with fail
    go_ret
    rw [HE.out, HS.out]
    obtain ⟨hI6, hC6⟩ := H1.out.put hf (v := .slice A5 (F.length + n) c5) (d := d) (l := F ++ l) (w' := w6) ⟨hG6.os.trans (hG5.os.trans HB2.out.os), hG6.tape.trans (hG5.tape.trans HB2.out.tape), hG6.output.trans (hG5.output.trans HB2.out.output), Nat.le_trans HB2.out.size (Nat.le_trans hG5.size hG6.size),
        fun k hk hkm hko => ((hG6.block k (Nat.lt_of_lt_of_le hk (Nat.le_trans HB2.out.size hG5.size)) (by simpa using hkm)).trans (hG5.block k (Nat.lt_of_lt_of_le hk HB2.out.size) (by rw [← hpk]; exact fun e => hko e.symm))).trans (HB2.out.block k hk)⟩ hM6
      (own_keep hO5 (fun k e => hG6.block k (hO5.lt k e).2 (fun e' => own_not_map hO5 (HMP.out w5 hG5) (by rw [e, e'])))) (fun k e => by
        rw [hpk]
        rcases hF5 k e with h1 | h1
        · exact .inl h1
        · exact .inr (Nat.le_trans HB2.out.size h1))
    exact ⟨_, rfl, ⟨m, z', _, _, hI6, rfl⟩, (Chg.of_grown hG (.inl rfl)).trans hC6⟩
  · have HS := Lib.hid (app_not (l := l) (by rw [hln]; exact hx))
    obtain ⟨x, hxe⟩ : ∃ x, DS.stE S f n = x := ⟨_, rfl⟩
    rw [hxe] at hE hx CS
    have HE := Lib.hid hE
    have hxx : (x == 0) = false := by simpa using hx
    clear hE hxe hx h hS hs hp
    go_enter Try.func31, Try.ntmps31
    go_wp2_with fail
    refine CS.out.mono ?_
    rintro e w1 ⟨rfl, ⟨z', h1⟩, hG⟩
    go_wp2_with fail
    go_ret
    rw [HE.out, HS.out, hln]
    exact ⟨_, rfl, ⟨m, z', xa, xb, h1, rfl⟩, Chg.of_grown hG (.inl rfl)⟩
end Go.Proofs.Ytafdgibkhefplaa.disk
