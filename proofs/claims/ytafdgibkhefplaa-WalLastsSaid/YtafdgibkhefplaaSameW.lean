/- The statements' own same, of logs: both say the same, to the last byte of the disk. Conditions: those that the theorem names. -/
import Derived.Test.YtafdgibkhefplaaBothW
import Derived.Test.YtafdgibkhefplaaLaw0
namespace Go.Proofs.Ytafdgibkhefplaa.law5
open Go.RowKit Go.Proofs.Ytafdgibkhefplaa.kit Go.Proofs.Ytafdgibkhefplaa.nums Go.Proofs.Ytafdgibkhefplaa.ds Go.Proofs.Ytafdgibkhefplaa.ws Go.Proofs.Ytafdgibkhefplaa.ref4 Go.Proofs.Ytafdgibkhefplaa.ref5
set_option linter.unusedVariables false

theorem BothD.below {w w' : World} {B q a g : Nat} {D : DS} {fd : Nat → Prop} {pw px : Value} {lab : Nat → Nat} (h : BothD w B q a g D fd pw px lab) (hb : Below w.heap.size w w') : BothD w' B q a g D fd pw px lab := h.same (fun k _ hk => hb.block k hk)
theorem Part.below {w w' : World} {B q a g : Nat} {D : DS} {fd : Nat → Prop} {pw px : Value} {lab : Nat → Nat} (h : Part w a g D pw px lab) (hd : BothD w B q a g D fd pw px lab) (hb : Below w.heap.size w w') : Part w' a g D pw px lab := h.same hb.size (hd.below hb).r (fun k _ hk => hb.block k hk)
set_option maxRecDepth 100000 in
set_option maxHeartbeats 2000000 in
theorem same2_any (w : World) (B q a g : Nat) (D : DS) (fd : Nat → Prop) (pw px : Value) (lab : Nat → Nat) (h : BothD w B q a g D fd pw px lab) (hP : Part w a g D pw px lab) (hs : D.stepped ≤ 990000) (hp : D.powers ≤ 990000) :
    Calls Try.prog 15 #[.pointer (some ⟨q, 0, none⟩)] w fun e w' => e = .returned (.bool true) ∧ Below w.heap.size w w' := by
  have H := Lib.hid h
  have HP := Lib.hid hP
  clear h hP
  go_enter Try.func15, Try.ntmps15
  go_wp2_with fail
  go_loopw [3] (fun i wr => ∃ j : Nat, j ≤ 2 ∧ i = .int .i64 j ∧ Below w.heap.size w wr) (fun i _ => 2 - (intOf i).toNat)
  case atStart => exact ⟨0, by omega, rfl, Below.refl _ _⟩
  case round =>
    obtain ⟨j, hj, rfl, hB⟩ := hrel
    by_cases hlt : j < 2
    · have hb := H.out.below hB
      have q0 : wr.cell? ⟨q, 0, none⟩ = some (.pointer (some ⟨a, 0, none⟩)) := hb.qb.cell 0
      have C1 := Lib.hid (disk.read_any a D fd wr hb.d hb.good (by omega) (by omega) j)
      have HBw := Lib.hid hb
      clear hb
      go_wp2_with fail
      refine C1.out.mono ?_
      clear C1
      rintro e y1 ⟨A1, n1, k1, rfl, hl1, hO1, hY1⟩
      have hb1 := HBw.out.below hY1
      have q1 : y1.cell? ⟨q, 1, none⟩ = some (.pointer (some ⟨g, 0, none⟩)) := hb1.qb.cell 1
      have C2 := Lib.hid (ref4.read_any g D j y1 hb1.r)
      have hs1 := run_string_rd (P := Try.prog) y1 35 5 9 Try.underlying35 Try.underlying5 Try.underlying9 y1.heap.size A1 n1 k1 _ (hO1.rd hl1)
      clear q0 hb1 hO1
      go_wp2_with fail
      refine C2.out.mono ?_
      clear C2
      rintro e y2 ⟨rfl, rfl⟩
      generalize strOfNums (D.readL j) = T at *
      generalize D.may j = me at *
      go_wp2_with fail
      go_roundw
      case rel => exact ⟨j + 1, by omega, by go_num, hB.trans (hY1.mono hB.size)⟩
      case measure => simp [intOf]; omega
    · obtain rfl : j = 2 := by omega
      have hb := H.out.below hB
      have hpp := HP.out.below H.out hB
      have q1 : wr.cell? ⟨q, 1, none⟩ = some (.pointer (some ⟨g, 0, none⟩)) := hb.qb.cell 1
      have q2 : wr.cell? ⟨q, 2, none⟩ = some pw := hb.qb.cell 2
      have q3 : wr.cell? ⟨q, 3, none⟩ = some px := hb.qb.cell 3
      have g4 := hb.r.c4
      have HBw := Lib.hid hb
      clear hb
      rcases hpp with ⟨rfl, rfl⟩ | ⟨p, x, base, X, fw, v, rfl, rfl, hw, hfw, hW, hbs, hx4, hv4, hF, hfile⟩
      · go_wp2_with fail
        go_ret
        exact ⟨rfl, hB⟩
      · obtain ⟨Av, cv, rfl, hcv, hcvm, _⟩ := hW.own.slice
        rw [List.length_map] at hW hcv hv4
        have hL : wal.Log wr p a X D fw fd := ⟨hw, HBw.out.d, fun k h3 h1 => by have := hfw k h3; have := HBw.out.ld k h1; omega⟩
        have CO := Lib.hid (over_any x g base X D _ wr hW)
        have CC := Lib.hid (show ∀ W : World, (∃ n, W = wr.drewN n) → Calls Try.prog 27 #[.pointer (some ⟨p, 0, none⟩)] W fun e w' => e = .returned (.int .i64 (if X.over D = true then 0 else X.recs.length)) ∧ ∃ n, w' = wr.drewN n from fun W ⟨k, hk⟩ => by
          subst hk
          exact (wal.count_any p a X D fw fd (wr.drewN k) ⟨hw.keep (fun _ _ => rfl), HBw.out.d.keep (fun _ _ => rfl), hL.apart⟩ HBw.out.good (by omega) (by omega) hF hfile).mono fun e w' ⟨h1, n, h2⟩ => ⟨h1, k + n, by rw [h2, World.drewN_drewN]⟩)
        have CB := Lib.hid (show ∀ W : World, (∃ n, W = wr.drewN n) → Calls Try.prog 28 #[.pointer (some ⟨p, 0, none⟩)] W fun e w' => e = .returned (.int .i64 (if X.over D = true then 0 else X.size)) ∧ ∃ n, w' = wr.drewN n from fun W ⟨k, hk⟩ => by
          subst hk
          exact (wal.bytes_any p a X D fw fd (wr.drewN k) ⟨hw.keep (fun _ _ => rfl), HBw.out.d.keep (fun _ _ => rfl), hL.apart⟩ HBw.out.good (by omega) (by omega) hF hfile).mono fun e w' ⟨h1, n, h2⟩ => ⟨h1, k + n, by rw [h2, World.drewN_drewN]⟩)
        have CR := Lib.hid (show ∀ W : World, (∃ n, W = wr.drewN n) → ∀ k, Calls Try.prog 46 #[.pointer (some ⟨g, 0, none⟩), .int .i64 X.file] (W.drewN k) fun e w' => e = .returned (.tuple #[.string (strOfNums (D.readL X.file)), .int .i64 (D.may X.file)]) ∧ ∃ n, w' = W.drewN n from fun W ⟨j, hj⟩ k => by
          subst hj
          exact (ref4.read_any g D X.file ((wr.drewN j).drewN k) (HBw.out.r.keep rfl)).mono fun e w' ⟨h1, h2⟩ => ⟨h1, k, h2.symm⟩)
        have x1 := hW.c1
        have x3 := hW.c3
        have HF := Lib.hid hF
        have hmany := hF.many
        have hs1 := hF.s1
        have HFile := Lib.hid hfile
        have HQ := Lib.hid (show ∀ W : World, (∃ n, W = wr.drewN n) → W.cell? ⟨q, 1, none⟩ = some (.pointer (some ⟨g, 0, none⟩)) ∧ W.cell? ⟨q, 2, none⟩ = some (.pointer (some ⟨p, 0, none⟩)) ∧ W.cell? ⟨q, 3, none⟩ = some (.pointer (some ⟨x, 0, none⟩)) ∧ W.cell? ⟨g, 4, none⟩ = some (.bool D.off) ∧ W.cell? ⟨x, 1, none⟩ = some (.int .i64 X.file) from fun W ⟨k, hk⟩ => by
          subst hk
          exact ⟨q1, q2, q3, g4, x1⟩)
        have HBel := Lib.hid (show ∀ W : World, (∃ n, W = wr.drewN n) → Below w.heap.size w W from fun W ⟨k, hk⟩ => by
          subst hk
          exact hB.trans (drewN_below _ _ _))
        clear hL hw hfw hW hbs hx4 hv4 hF hfile hcv q1 q2 g4 x1 hB
        rcases ho : X.over D with _ | _
        · rw [ho] at CO CC CB
          simp only [Bool.false_eq_true, if_false] at CC CB
          have HOV := Lib.hid ho
          clear ho
          rcases hoff : D.off with _ | _
          · have hm : D.may X.file = 0 := by
              unfold DS.may
              rw [if_neg (by rw [hoff]; decide), if_pos (by have := HF.out.file; have := HFile.out; omega)]
            have hrl : D.readL X.file = D.file X.file := by unfold DS.readL; rw [if_neg (by omega)]
            have hsz := HF.out.size HOV.out HFile.out
            rw [hm, hrl] at CR
            have hz := strOfNums_size (D.file X.file)
            rw [← hsz] at hz
            rw [hoff] at HQ
            clear hm hrl hsz hoff
            generalize strOfNums (D.file X.file) = T at *
            generalize X.recs.length = nr at *
            generalize X.size = ns at *
            go_wp2_with fail
            refine CO.out.mono ?_
            rintro e W ⟨rfl, hk⟩
            obtain ⟨w1, w2, w3, w4, w5⟩ := HQ.out W hk
            have CR2 := Lib.hid (CR.out W hk)
            have HK := Lib.hid hk
            clear hk CO CR q3 x3
            go_upto_region 13 with (fail)
            go_quiet (exact CR2.out _)
            have hk2 : ∃ n, W.drewN nq = wr.drewN n := by
              obtain ⟨k, hk⟩ := HK.out
              exact ⟨k + nq, by rw [hk, World.drewN_drewN]⟩
            have CC2 := Lib.hid (CC.out _ hk2)
            clear w1 w2 w3 w4 w5
            obtain ⟨w1, w2, w3, w4, w5⟩ := HQ.out _ hk2
            clear CR2 CC hk2
            go_wp2_with fail
            refine CC2.out.mono ?_
            rintro e V ⟨rfl, hv⟩
            have CB2 := Lib.hid (CB.out V hv)
            clear w1 w2 w3 w4 w5 CC2
            obtain ⟨w1, w2, w3, w4, w5⟩ := HQ.out V hv
            clear hv CB
            go_wp2_with fail
            refine CB2.out.mono ?_
            rintro e U ⟨rfl, hu⟩
            have HU := Lib.hid (HBel.out U hu)
            clear hu CB2 w1 w2 w3 w4 w5
            go_wp2_with fail
            go_ret
            exact ⟨rfl, HU.out⟩
          · have hrl : D.readL X.file = [] := by
              unfold DS.readL DS.may
              rw [hoff, if_pos rfl, if_pos (by decide)]
            rw [hrl] at CR
            have hz := strOfNums_size []
            rw [hoff] at HQ
            clear hrl hoff CC CB
            generalize strOfNums [] = T at *
            generalize D.may X.file = me at *
            go_wp2_with fail
            refine CO.out.mono ?_
            rintro e W ⟨rfl, hk⟩
            obtain ⟨w1, w2, w3, w4, w5⟩ := HQ.out W hk
            have CR2 := Lib.hid (CR.out W hk)
            have HK := Lib.hid hk
            clear hk CO CR q3 x3
            go_upto_region 13 with (fail)
            go_quiet (exact CR2.out _)
            have hk2 : ∃ n, W.drewN nq = wr.drewN n := by
              obtain ⟨k, hk⟩ := HK.out
              exact ⟨k + nq, by rw [hk, World.drewN_drewN]⟩
            clear w1 w2 w3 w4 w5
            obtain ⟨w1, w2, w3, w4, w5⟩ := HQ.out _ hk2
            have HU := Lib.hid (HBel.out _ hk2)
            clear CR2 hk2
            go_wp2_with fail
            go_ret
            exact ⟨rfl, HU.out⟩
        · rw [ho] at CO CC CB
          simp only [if_true] at CC CB
          clear ho CR
          go_wp2_with fail
          refine CO.out.mono ?_
          rintro e W ⟨rfl, hk⟩
          obtain ⟨w1, w2, w3, w4, w5⟩ := HQ.out W hk
          have CC2 := Lib.hid (CC.out W hk)
          have HU0 := Lib.hid (HBel.out W hk)
          clear hk CO CC q3 x3
          rcases hoff : D.off with _ | _
          · rw [hoff] at w4
            go_wp2_with fail
            refine CC2.out.mono ?_
            rintro e V ⟨rfl, hv⟩
            have CB2 := Lib.hid (CB.out V hv)
            clear w1 w2 w3 w4 w5 CC2
            obtain ⟨w1, w2, w3, w4, w5⟩ := HQ.out V hv
            clear hv CB
            go_wp2_with fail
            refine CB2.out.mono ?_
            rintro e U ⟨rfl, hu⟩
            have HU := Lib.hid (HBel.out U hu)
            clear hu CB2 w1 w2 w3 w4 w5
            go_wp2_with fail
            go_ret
            exact ⟨rfl, HU.out⟩
          · rw [hoff] at w4
            clear CC2 CB
            go_wp2_with fail
            go_ret
            exact ⟨rfl, HU0.out⟩
end Go.Proofs.Ytafdgibkhefplaa.law5
