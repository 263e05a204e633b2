/- What the program's own log's Open comes to. Conditions: those that each theorem names. -/
import Derived.Test.YtafdgibkhefplaaWlR
import Derived.Test.YtafdgibkhefplaaWlP
namespace Go.Proofs.Ytafdgibkhefplaa.wal
open Go.RowKit Go.Proofs.Ytafdgibkhefplaa.kit Go.Proofs.Ytafdgibkhefplaa.nums Go.Proofs.Ytafdgibkhefplaa.ds Go.Proofs.Ytafdgibkhefplaa.disk Go.Proofs.Ytafdgibkhefplaa.ws Go.Proofs.Ytafdgibkhefplaa.rec_ Go.Proofs.Ytafdgibkhefplaa.bytes
set_option linter.unusedVariables false

/-- What Open ends in. -/
def RetOp (w : World) (a : Nat) (fd : Nat → Prop) (o : Out) (e : Ending) (w' : World) : Prop :=
  (o.e = 0 ∧ ∃ p fw' fd' A n c, e = .returned (.tuple #[.pointer (some ⟨p, 0, none⟩), .slice A n c, .int .i64 0]) ∧ Log w' p a o.X o.D fw' fd' ∧ (∀ k, fw' k → w.heap.size ≤ k) ∧ Chg fd (Or2 fw' fd') w w' ∧ Safe w' (fun k => k < w.heap.size) (fun W => RdS W W.heap.size A n o.X.recs)) ∨
  (o.e ≠ 0 ∧ ∃ fd' A c, e = .returned (.tuple #[.pointer none, .slice A 0 c, .int .i64 o.e]) ∧ IsDisk w' a o.D fd' ∧ Chg fd fd' w w')
def stageP (D : DS) (j : Nat) : Pick := if j = 0 then ⟨WS.start D.powers, true⟩ else if j = 1 then (Pick.more ⟨WS.start D.powers, true⟩ 0 D.a.length (lookL D.a)) else pick D
theorem stageP_succ (D : DS) (j : Nat) (hj : j < 2) : stageP D (j + 1) = (stageP D j).more j (D.file j).length (lookL (D.file j)) := by
  rcases (by omega : j = 0 ∨ j = 1) with rfl | rfl <;> rfl
theorem stageP_fit {D : DS} (h : D.Good) (j : Nat) (hj : j ≤ 2) : Fit (stageP D j).X D := by
  rcases (by omega : j = 0 ∨ j = 1 ∨ j = 2) with rfl | rfl | rfl
  · exact Fit.start D _ h.p1
  · exact Fit.more (P := ⟨WS.start D.powers, true⟩) (Fit.start D _ h.p1) h.ya h.na (.inl rfl) rfl
  · exact Fit.pick h
theorem moreP_yes {P : Pick} {f : Int} {n : Nat} {K : Look} (h : K.whole = true ∧ P.X.gen < K.gen) : P.more f n K = ⟨{ P.X with file := f, gen := K.gen, recs := K.recs, size := n }, K.spoilt⟩ := by unfold Pick.more; rw [if_pos h]
theorem moreP_no {P : Pick} {f : Int} {n : Nat} {K : Look} (h : ¬ (K.whole = true ∧ P.X.gen < K.gen)) : P.more f n K = P := by unfold Pick.more; rw [if_neg h]
theorem rewrite_recs {X : WS} {D : DS} {L : List (List Int)} : (rewriteO X D L).e = 0 → (rewriteO X D L).X.recs = L := by
  apply rewrite_ways X D L (P := fun o => o.e = 0 → o.X.recs = L)
  · exact fun h e => absurd e h
  · exact fun _ _ e => absurd (show (8 : Int) = 0 from e) (by decide)
  · exact fun _ _ h e => absurd e h
  · exact fun _ _ _ h e => absurd e h
  · exact fun _ _ _ _ h e => absurd e h
  · exact fun _ _ _ _ _ _ => rfl
/-- A slice of slices, it and they in blocks from base on. -/
def RowF (w : World) (base : Nat) (A : Option Addr) (n c : Nat) (L : List (List Int)) : Prop := ∃ xs, xs.length = n ∧ L.length = n ∧ OwnV 35 w base (.slice A n c) xs ∧ SsF w base w.heap.size xs L
section
variable {w w' : World} {base n c : Nat} {A : Option Addr} {L : List (List Int)}
theorem RowF.keep (h : RowF w base A n c L) (hs : w.heap.size ≤ w'.heap.size) (hk : ∀ k, base ≤ k → k < w.heap.size → w'.heap[k]? = w.heap[k]?) : RowF w' base A n c L := by
  obtain ⟨xs, h1, h2, hO, hS⟩ := h
  refine ⟨xs, h1, h2, ?_, (hS.keep hs (fun k hb _ hk2 => hk k hb hk2)).more (Nat.le_refl _) hs⟩
  refine ⟨hO.1, ?_⟩
  rcases hO.2 with hn | ⟨g, cap, cur, hv, hb, hg, r⟩
  · exact .inl hn
  · exact .inr ⟨g, cap, cur, hv, hb, by rw [hk g hb (Array.getElem?_eq_some_iff.1 hg).1]; exact hg, r⟩
theorem RowF.below (h : RowF w base A n c L) (hB : Below w.heap.size w w') : RowF w' base A n c L := h.keep hB.size (fun k _ hk => hB.block k hk)
theorem RowF.more {base' : Nat} (h : RowF w base A n c L) (hb : base' ≤ base) : RowF w base' A n c L := by
  obtain ⟨xs, h1, h2, hO, hS⟩ := h
  exact ⟨xs, h1, h2, hO.more hb, hS.more hb (Nat.le_refl _)⟩
theorem RowF.rds (h : RowF w base A n c L) : RdS w w.heap.size A n L := by
  obtain ⟨xs, h1, h2, hO, hS⟩ := h
  obtain ⟨A', c', e, _, _, hV⟩ := hO.slice
  rw [h1] at e hV
  simp only [Value.slice.injEq] at e
  obtain ⟨rfl, -, rfl⟩ := e
  exact ⟨xs, hV, h2, fun j x l hx hl => (hS j x l hx hl).sl⟩
theorem RowF.nil (w : World) (base : Nat) : RowF w base none 0 0 [] := ⟨[], rfl, rfl, OwnV.nil _ _ _, SsF.nil⟩
theorem RowF.safe (h : RowF w base A n c L) {b : Nat} (hb : b ≤ base) : Safe w (fun k => k < b) (fun W => RdS W W.heap.size A n L) := fun W hs hk => (h.keep hs (fun k h1 h2 => hk k h2 (by omega))).rds
end
set_option maxRecDepth 100000 in
set_option maxHeartbeats 4000000 in
theorem open_any (a : Nat) (D : DS) (fd : Nat → Prop) (w : World) (h : IsDisk w a D fd) (hD : D.Good) (hs : D.stepped ≤ 999000) (hp : D.powers ≤ 1000000) :
    Calls Try.prog 16 #[.pointer (some ⟨a, 0, none⟩)] w (RetOp w a fd (openO D)) := by
  have CLv := Lib.hid (lives_any a D fd w h hD (by omega) hp)
  have hd := h
  clear h
  go_enter Try.func16, Try.ntmps16
  go_wp2_with fail
  refine CLv.out.mono ?_
  clear CLv
  rintro e w1 ⟨rfl, q, hw1⟩
  have hB1 : Below w.heap.size w w1 := by rw [hw1]; exact below_drewN (Below.refl _ _) q
  have hs1 : w1.heap.size = w.heap.size := by rw [hw1]; rfl
  clear hw1
  go_upto_region 3 with (fail)
  have hbw : Blk 60 (w1.alloc (.cells #[.pointer (some ⟨a, 0, none⟩), .int .i64 D.powers, .bool false, .int .i64 1, .int .u64 0, .int .i64 0, .int .i64 0] 60)) w.heap.size (cellsW a (stageP D 0).X) := by
    have := (MapKept.heap_alloc w1 (.cells #[.pointer (some ⟨a, 0, none⟩), .int .i64 D.powers, .bool false, .int .i64 1, .int .u64 0, .int .i64 0, .int .i64 0] 60)).1
    rw [hs1] at this
    exact this
  have hB2 : Below w.heap.size w (w1.alloc (.cells #[.pointer (some ⟨a, 0, none⟩), .int .i64 D.powers, .bool false, .int .i64 1, .int .u64 0, .int .i64 0, .int .i64 0] 60)) := hB1.alloc (by omega) _
  generalize w1.alloc (.cells #[.pointer (some ⟨a, 0, none⟩), .int .i64 D.powers, .bool false, .int .i64 1, .int .u64 0, .int .i64 0, .int .i64 0] 60) = w2 at *
  have HD := Lib.hid hd
  have hfd := Lib.hid (fun k hk => hd.lt k hk)
  clear hB1 hs1 w1 hd
  go_wp2_with fail
  go_loopw [2, 3, 4, 5, 14] (fun wp rs ev sp i wr => ∃ (j : Nat) (A : Option Addr) (nr cr : Nat), j ≤ 2 ∧ i = .int .i64 j ∧ wp = .pointer (some ⟨w.heap.size, 0, none⟩) ∧ ev = .int .i64 0 ∧ sp = .bool (stageP D j).spoilt ∧ rs = .slice A nr cr ∧ Hid (RowF wr (w.heap.size + 1) A nr cr (stageP D j).X.recs) ∧ Hid (Blk 60 wr w.heap.size (cellsW a (stageP D j).X)) ∧ Below w.heap.size w wr ∧ Hid (0 < j → D.off = false)) (fun _ _ _ _ i _ => 2 - (intOf i).toNat)
  case atStart => exact ⟨0, none, 0, 0, by omega, rfl, rfl, rfl, rfl, rfl, RowF.nil _ _, hbw, hB2, fun h => absurd h (by omega)⟩
  case round =>
    clear hB2 hbw
    obtain ⟨j, A, nr, cr, hj, rfl, rfl, rfl, rfl, rfl, hrow, hbw, hB, hoff⟩ := hrel
    have hdr : IsDisk wr a D fd := HD.out.keep (fun k hk => hB.block k (hfd.out k hk))
    by_cases hlt : j < 2
    case neg =>
      obtain rfl : j = 2 := by omega
      have ho := hoff.out (by omega)
      have hst : stageP D 2 = pick D := rfl
      rw [hst] at hrow hbw ⊢
      have hfit : Fit (pick D).X D := Fit.pick hD
      have HAP := Lib.hid (show ¬ fd w.heap.size from fun h => by have := hfd.out _ h; omega)
      have HDR := Lib.hid hdr
      have HB := Lib.hid hB
      rcases hsp : (pick D).spoilt with _ | _
      · have HO := Lib.hid (show openO D = ⟨0, (pick D).X, D⟩ by unfold openO; rw [if_neg (by rw [ho]; decide), if_neg (by rw [hsp]; decide)])
        clear hoff ho hst hsp hfit hdr hB
        go_wp2_with fail
        go_ret3
        rw [HO.out]
        refine .inl ⟨rfl, w.heap.size, fun k => k = w.heap.size, fd, A, nr, cr, rfl, ⟨⟨hbw.out, rfl⟩, HDR.out, fun k hk => hk ▸ HAP.out⟩, fun k hk => Nat.le_of_eq hk.symm, ⟨HB.out.os, HB.out.tape, HB.out.output, HB.out.size, fun k hk _ => HB.out.block k hk, fun k hk => ?_⟩, hrow.out.safe (by omega)⟩
        rcases hk with h1 | h1
        · exact .inr (Nat.le_of_eq h1.symm)
        · exact .inl h1
      · have HO := Lib.hid (show openO D = rewriteO (pick D).X D (pick D).X.recs by unfold openO; rw [if_neg (by rw [ho]; decide), if_pos hsp])
        have hmany := hfit.many
        have hrl := hrow.out.rds.len
        have C5 := Lib.hid (rewrite_in w.heap.size a (pick D).X D fd wr hbw.out hdr HAP.out hD hs hp hfit A nr cr (pick D).X.recs hrow.out.rds (fun r hr => (hfit.recs r hr).1) (by omega))
        have HRR := Lib.hid (rewrite_recs (X := (pick D).X) (D := D) (L := (pick D).X.recs))
        rw [← HO.out] at C5 HRR
        clear hoff ho hst hsp hfit hdr hB HO hmany hrl
        generalize openO D = O at *
        go_wp2_with fail
        refine C5.out.mono ?_
        clear C5
        rintro e w8 ⟨fw8, fd8, rfl, hL8, hC8, hf8, hd8⟩
        have hrow8 : RowF w8 (w.heap.size + 1) A nr cr (pick D).X.recs := hrow.out.keep hC8.size (fun k h1 h2 => hC8.block k h2 (fun h => by
          rcases h with h | h
          · omega
          · have := hfd.out k h; omega))
        have hCh : Chg fd (Or2 fw8 fd8) w w8 := ⟨hC8.os.trans HB.out.os, hC8.tape.trans HB.out.tape, hC8.output.trans HB.out.output, Nat.le_trans HB.out.size hC8.size, fun k hk hn => (hC8.block k (Nat.lt_of_lt_of_le hk HB.out.size) (fun h => by
          rcases h with h | h
          · omega
          · exact hn h)).trans (HB.out.block k hk), fun k hk => by
          rcases hC8.new k hk with (h | h) | h
          · exact .inr (Nat.le_of_eq h.symm)
          · exact .inl h
          · exact .inr (Nat.le_trans HB.out.size h)⟩
        have H8 := Lib.hid (And.intro hL8 (And.intro hrow8 (And.intro hCh (And.intro hf8 hd8))))
        clear hL8 hC8 hf8 hd8 hrow8 hCh hbw hrow
        by_cases he : O.e = 0
        · have hr := HRR.out he
          rw [he]
          go_wp2_with fail
          go_ret3
          refine .inl ⟨he, w.heap.size, fw8, fd8, A, nr, cr, rfl, ?_, ?_, H8.out.2.2.1, ?_⟩
          · exact H8.out.1
          · intro k hk
            rcases H8.out.2.2.2.1 k hk with h | h
            · exact Nat.le_of_eq h.symm
            · exact Nat.le_trans HB.out.size h
          · rw [hr]; exact H8.out.2.1.safe (by omega)
        · obtain ⟨x, hx⟩ : ∃ x, O.e = x := ⟨_, rfl⟩
          rw [hx] at he ⊢
          have hne : (x != 0) = true := by simpa using he
          have HX := Lib.hid hx
          clear hx HRR
          go_wp2_with fail
          go_ret3
          have hC := H8.out.2.2.1
          exact .inr ⟨by rw [HX.out]; exact he, fd8, none, 0, (by rw [HX.out]; rfl), H8.out.1.disk, ⟨hC.os, hC.tape, hC.output, hC.size, hC.block, fun k hk => hC.new k (.inr hk)⟩⟩
    have C1 := Lib.hid (read_any a D fd wr hdr hD (by omega) hp j)
    rcases ho : D.off with _ | _
    case true =>
      have hm : D.may j = 6 := by unfold DS.may; rw [if_pos ho]
      have HO := Lib.hid (show openO D = ⟨6, WS.start D.powers, D⟩ by unfold openO; rw [if_pos ho])
      rw [hm] at C1
      clear hoff hm ho
      go_wp2_with fail
      refine C1.out.mono ?_
      clear C1
      rintro e w3 ⟨A3, n3, c3, rfl, hl3, hO3, hB3⟩
      go_wp2_with fail
      go_ret3
      rw [HO.out]
      have hBt := hB.trans (hB3.mono hB.size)
      exact .inr ⟨(show (6 : Int) ≠ 0 by decide), fd, _, _, rfl, hdr.keep (fun k hk => hB3.block k (hdr.lt k hk)), Chg.of_below hBt⟩
    have hm : D.may j = 0 := by unfold DS.may; rw [if_neg (by rw [ho]; decide), if_pos (by omega)]
    have hrl : D.readL j = D.file j := by unfold DS.readL; rw [if_neg (by omega)]
    rw [hm, hrl] at C1
    have hfg : Byt (D.file j) ∧ (D.file j).length ≤ 4194304 := by
      rcases (by omega : j = 0 ∨ j = 1) with rfl | rfl
      · exact ⟨hD.ya, hD.na⟩
      · exact ⟨hD.yb, hD.nb⟩
    have HSU := Lib.hid (stageP_succ D j hlt)
    have HQO := Lib.hid ho
    have HFIT := Lib.hid (stageP_fit hD j hj)
    have hg0 := HFIT.out.g0
    have hgr := HFIT.out.g1
    clear hm hrl hoff ho hdr
    go_wp2_with fail
    refine C1.out.mono ?_
    clear C1
    rintro e w3 ⟨A3, n3, c3, rfl, hl3, hO3, hB3⟩
    have hc3 := hO3.caps hl3
    have CP := Lib.hid (parse_any A3 n3 c3 (D.file j) w3 (hO3.rd hl3) hfg.1 (by omega) hc3.1 hc3.2)
    rw [hl3] at HSU
    have hn3 : n3 ≤ 4194304 := by omega
    clear hO3 hfg
    generalize lookL (D.file j) = K at *
    generalize stageP D j = Pk at *
    go_wp2_with fail
    refine CP.out.mono ?_
    clear CP
    rintro e w4 ⟨gg, A4, n4, c4', xs4, M4, dm, rfl, hW, hNW, hMn, hxn, hO4, hS4, hB4⟩
    have hQ : Blk 95 (w4.alloc (.cells #[.int .u64 gg, .slice A4 n4 c4', .bool dm] 95)) w4.heap.size [.int .u64 gg, .slice A4 n4 c4', .bool dm] := (MapKept.heap_alloc w4 _).1
    have hBa : Below w4.heap.size w4 (w4.alloc (.cells #[.int .u64 gg, .slice A4 n4 c4', .bool dm] 95)) := (Below.refl _ _).alloc (Nat.le_refl _) _
    have hB34 := hB3.trans (hB4.mono hB3.size)
    have hpl := hbw.out.lt
    have hgp : w4.heap.size ≠ w.heap.size := by have := hB34.size; omega
    go_upto_region 11 with (fail)
    generalize w4.alloc (.cells #[.int .u64 gg, .slice A4 n4 c4', .bool dm] 95) = w5 at *
    have hB35 := hB34.trans (hBa.mono hB34.size)
    have HB5 := Lib.hid (hB.trans (hB35.mono hB.size))
    have HW5 := Lib.hid (Blk.below hbw.out hB35 hpl)
    have HR5 := Lib.hid (show RowF w5 (w.heap.size + 1) A nr cr Pk.X.recs from hrow.out.below hB35)
    have HR4 := Lib.hid (show RowF w5 (w.heap.size + 1) A4 n4 c4' M4 from (RowF.below (w := w4) (base := w3.heap.size) ⟨xs4, hxn, hMn, hO4, hS4⟩ hBa).more (by have := hB3.size; omega))
    have HQ := Lib.hid hQ
    have f0 := hQ.cell 0
    have f1 := hQ.cell 1
    have f2 := hQ.cell 2
    simp only [List.getElem?_cons_zero, List.getElem?_cons_succ] at f0 f1 f2
    have p4 := wal.c4 HW5.out
    clear hQ hBa hB34 hB35 hB3 hB4 hO4 hS4 hxn hbw hrow hB
    by_cases hc : Pk.X.gen < gg
    · have hwt : K.whole = true := by
        rcases hwk : K.whole with _ | _
        · have := hNW hwk; omega
        · rfl
      obtain ⟨e1, e2, e3⟩ := hW hwt
      have HN := Lib.hid (show stageP D (j + 1) = ⟨{ Pk.X with file := j, gen := gg, recs := M4, size := n3 }, dm⟩ by rw [HSU.out, moreP_yes ⟨hwt, by rw [← e1]; exact hc⟩, ← e1, ← e2, ← e3])
      clear e1 e2 e3 HSU hW hNW hwt
      go_quiet (fail)
      go_upto_region 12 with (fail)
      have H4 := Lib.hid (show Blk 60 (w5.drewN nq).drew w.heap.size (cellsW a Pk.X) from HW5.out)
      have HB4 := Lib.hid (show Below w.heap.size w (w5.drewN nq).drew from (below_drewN HB5.out nq).drew)
      have HF4 := Lib.hid (show Blk 95 (w5.drewN nq).drew w4.heap.size [.int .u64 gg, .slice A4 n4 c4', .bool dm] from HQ.out)
      have HRo := Lib.hid (show RowF (w5.drewN nq).drew (w.heap.size + 1) A4 n4 c4' M4 from HR4.out)
      clear HW5 HB5 HQ HR4 HR5 f0 f1 f2 p4
      refine wp_region_held_drew (S := fun wq => wq.cell? ⟨w4.heap.size, 0, none⟩ = some (.int .u64 gg) ∧ wq.cell? ⟨w4.heap.size, 1, none⟩ = some (.slice A4 n4 c4')) (by kernel_rfl) ?s_0 (fun hHeld => ?_)
      case s_0 => exact ⟨HF4.out.cell 0, HF4.out.cell 1⟩
      generalize (w5.drewN nq).drew = w6 at *
      have HK3 := HF4.out.far (p := ⟨w.heap.size, 3, none⟩) hgp (.int .i64 j)
      have HK4 := HK3.far (p := ⟨w.heap.size, 4, none⟩) hgp (.int .u64 gg)
      have HK5 := HK4.far (p := ⟨w.heap.size, 5, none⟩) hgp (.int .i64 n4)
      have HK6 := HK5.far (p := ⟨w.heap.size, 6, none⟩) hgp (.int .i64 n3)
      have HSK := Lib.hid (And.intro (And.intro (HK3.cell 0) (HK3.cell 1)) (And.intro (And.intro (HK4.cell 0) (HK4.cell 1)) (And.intro (And.intro (HK5.cell 0) (HK5.cell 1)) (And.intro (HK6.cell 0) (HK6.cell 1)))))
      have HF6 := Lib.hid HK6
      clear HK3 HK4 HK5 HK6
      have p3 := wal.c3 H4.out
      have p4 := wal.c4 H4.out
      have p5 := wal.c5 H4.out
      have p6 := wal.c6 H4.out
      have pf := fun i => H4.out.frozen i
      refine wpAnyH_take (i := 0) (oi := { dst := some 35, op := Go.Op.move (Go.Operand.tmp 2), type := 30, pos := "wal.go:54", after := #[], guard := none }) (v := ?v_0_1) rfl (by kernel_rfl) (by kernel_rfl) (by kernel_rfl) (fun _ _ _ h => h) (Or.inl ⟨by rfl, ?y_0_1⟩) (by assumption) ?_
      case y_0_1 => (intro wq hSw; (try dsimp only at hSw); go_simp; first | done | with_reducible rfl)
      try simp only [Act.put, List.setIfInBounds_toArray, List.set_cons_zero, List.set_cons_succ]
      refine wpAnyH_take (i := 1) (oi := { dst := some 36, op := Go.Op.move (Go.Operand.tmp 2), type := 30, pos := "wal.go:54", after := #[{ on := 14, ground := Go.Ground.gcOnly Go.Departure.lateStores }], guard := none }) (v := ?v_1_1) rfl (by kernel_rfl) (by kernel_rfl) (by kernel_rfl) (fun _ _ _ h => h) (Or.inl ⟨by rfl, ?y_1_1⟩) (by assumption) ?_
      case y_1_1 => (intro wq hSw; (try dsimp only at hSw); go_simp; first | done | with_reducible rfl)
      try simp only [Act.put, List.setIfInBounds_toArray, List.set_cons_zero, List.set_cons_succ]
      refine wpAnyH_take (i := 2) (oi := { dst := some 37, op := Go.Op.move (Go.Operand.tmp 2), type := 30, pos := "wal.go:54", after := #[{ on := 17, ground := Go.Ground.gcOnly Go.Departure.lateStores }], guard := none }) (v := ?v_2_1) rfl (by kernel_rfl) (by kernel_rfl) (by kernel_rfl) (fun _ _ _ h => h) (Or.inl ⟨by rfl, ?y_2_1⟩) (by assumption) ?_
      case y_2_1 => (intro wq hSw; (try dsimp only at hSw); go_simp; first | done | with_reducible rfl)
      try simp only [Act.put, List.setIfInBounds_toArray, List.set_cons_zero, List.set_cons_succ]
      refine wpAnyH_take (i := 3) (oi := { dst := some 38, op := Go.Op.move (Go.Operand.tmp 2), type := 30, pos := "wal.go:54", after := #[{ on := 20, ground := Go.Ground.gcOnly Go.Departure.lateStores }], guard := none }) (v := ?v_3_1) rfl (by kernel_rfl) (by kernel_rfl) (by kernel_rfl) (fun _ _ _ h => h) (Or.inl ⟨by rfl, ?y_3_1⟩) (by assumption) ?_
      case y_3_1 => (intro wq hSw; (try dsimp only at hSw); go_simp; first | done | with_reducible rfl)
      try simp only [Act.put, List.setIfInBounds_toArray, List.set_cons_zero, List.set_cons_succ]
      refine wpAnyH_take (i := 4) (oi := { dst := some 39, op := Go.Op.move (Go.Operand.tmp 6), type := 3, pos := "wal.go:54", after := #[], guard := none }) (v := ?v_4_1) rfl (by kernel_rfl) (by kernel_rfl) (by kernel_rfl) (fun _ _ _ h => h) (Or.inl ⟨by rfl, ?y_4_1⟩) (by assumption) ?_
      case y_4_1 => (intro wq hSw; (try dsimp only at hSw); go_simp; first | done | with_reducible rfl)
      try simp only [Act.put, List.setIfInBounds_toArray, List.set_cons_zero, List.set_cons_succ]
      refine wpAnyH_take (i := 5) (oi := { dst := some 40, op := Go.Op.fieldAddr 95 (Go.Operand.tmp 8) 0, type := 0, pos := "wal.go:54", after := #[{ on := 14, ground := Go.Ground.gcOnly Go.Departure.lateStores }], guard := none }) (v := ?v_5_1) rfl (by kernel_rfl) (by kernel_rfl) (by kernel_rfl) (fun _ _ _ h => h) (Or.inl ⟨by rfl, ?y_5_1⟩) (by assumption) ?_
      case y_5_1 => (intro wq hSw; (try dsimp only at hSw); go_simp; first | done | with_reducible rfl)
      try simp only [Act.put, List.setIfInBounds_toArray, List.set_cons_zero, List.set_cons_succ]
      refine wpAnyH_take (i := 6) (oi := { dst := some 41, op := Go.Op.load 58 (Go.Operand.tmp 40), type := 58, pos := "wal.go:54", after := #[{ on := 5, ground := Go.Ground.data }, { on := 14, ground := Go.Ground.gcOnly Go.Departure.lateStores }], guard := none }) (v := ?v_6_1) rfl (by kernel_rfl) (by kernel_rfl) (by kernel_rfl) (fun _ _ _ h => h) (Or.inl ⟨by rfl, ?y_6_1⟩) (by assumption) ?_
      case y_6_1 => (intro wq hSw; (try dsimp only at hSw); go_simp; first | done | with_reducible rfl)
      try simp only [Act.put, List.setIfInBounds_toArray, List.set_cons_zero, List.set_cons_succ]
      refine wpAnyH_take (i := 7) (oi := { dst := some 42, op := Go.Op.fieldAddr 95 (Go.Operand.tmp 8) 1, type := 0, pos := "wal.go:54", after := #[], guard := none }) (v := ?v_7_1) rfl (by kernel_rfl) (by kernel_rfl) (by kernel_rfl) (fun _ _ _ h => h) (Or.inl ⟨by rfl, ?y_7_1⟩) (by assumption) ?_
      case y_7_1 => (intro wq hSw; (try dsimp only at hSw); go_simp; first | done | with_reducible rfl)
      try simp only [Act.put, List.setIfInBounds_toArray, List.set_cons_zero, List.set_cons_succ]
      refine wpAnyH_take (i := 8) (oi := { dst := some 43, op := Go.Op.load 36 (Go.Operand.tmp 42), type := 36, pos := "wal.go:54", after := #[{ on := 7, ground := Go.Ground.data }], guard := none }) (v := ?v_8_1) rfl (by kernel_rfl) (by kernel_rfl) (by kernel_rfl) (fun _ _ _ h => h) (Or.inl ⟨by rfl, ?y_8_1⟩) (by assumption) ?_
      case y_8_1 => (intro wq hSw; (try dsimp only at hSw); go_simp; first | done | with_reducible rfl)
      try simp only [Act.put, List.setIfInBounds_toArray, List.set_cons_zero, List.set_cons_succ]
      refine wpAnyH_take (i := 9) (oi := { dst := some 44, op := Go.Op.call { callee := Go.Callee.builtin Go.Builtin.len, args := #[Go.Operand.tmp 43], argTypes := #[36] }, type := 3, pos := "wal.go:54", after := #[{ on := 8, ground := Go.Ground.data }], guard := none }) (v := ?v_9_1) rfl (by kernel_rfl) (by kernel_rfl) (by kernel_rfl) (fun _ _ _ h => h) (Or.inl ⟨by rfl, ?y_9_1⟩) (by assumption) ?_
      case y_9_1 => (intro wq hSw; (try dsimp only at hSw); go_simp; first | done | with_reducible rfl)
      try simp only [Act.put, List.setIfInBounds_toArray, List.set_cons_zero, List.set_cons_succ]
      refine wpAnyH_take (i := 10) (oi := { dst := some 45, op := Go.Op.move (Go.Operand.tmp 7), type := 35, pos := "wal.go:54", after := #[], guard := none }) (v := ?v_10_1) rfl (by kernel_rfl) (by kernel_rfl) (by kernel_rfl) (fun _ _ _ h => h) (Or.inl ⟨by rfl, ?y_10_1⟩) (by assumption) ?_
      case y_10_1 => (intro wq hSw; (try dsimp only at hSw); go_simp; first | done | with_reducible rfl)
      try simp only [Act.put, List.setIfInBounds_toArray, List.set_cons_zero, List.set_cons_succ]
      refine wpAnyH_take (i := 11) (oi := { dst := some 46, op := Go.Op.call { callee := Go.Callee.builtin Go.Builtin.len, args := #[Go.Operand.tmp 45], argTypes := #[35] }, type := 3, pos := "wal.go:54", after := #[{ on := 10, ground := Go.Ground.data }], guard := none }) (v := ?v_11_1) rfl (by kernel_rfl) (by kernel_rfl) (by kernel_rfl) (fun _ _ _ h => h) (Or.inl ⟨by rfl, ?y_11_1⟩) (by assumption) ?_
      case y_11_1 => (intro wq hSw; (try dsimp only at hSw); go_simp; first | done | with_reducible rfl)
      try simp only [Act.put, List.setIfInBounds_toArray, List.set_cons_zero, List.set_cons_succ]
      refine wpAnyH_take (i := 12) (oi := { dst := some 47, op := Go.Op.nilCheck (Go.Operand.tmp 35), type := 0, pos := "wal.go:54", after := #[{ on := 0, ground := Go.Ground.data }, { on := 0, ground := Go.Ground.phase }, { on := 1, ground := Go.Ground.textOnly Go.Departure.lateStores }, { on := 2, ground := Go.Ground.textOnly Go.Departure.lateStores }, { on := 3, ground := Go.Ground.textOnly Go.Departure.lateStores }, { on := 4, ground := Go.Ground.phase }, { on := 5, ground := Go.Ground.textOnly Go.Departure.lateStores }, { on := 6, ground := Go.Ground.textOnly Go.Departure.lateStores }, { on := 7, ground := Go.Ground.textOnly Go.Departure.lateStores }, { on := 8, ground := Go.Ground.textOnly Go.Departure.lateStores }, { on := 9, ground := Go.Ground.textOnly Go.Departure.lateStoresUnsure }, { on := 10, ground := Go.Ground.textOnly Go.Departure.lateStores }, { on := 11, ground := Go.Ground.textOnly Go.Departure.lateStoresUnsure }], guard := none }) (v := ?v_12_1) rfl (by kernel_rfl) (by kernel_rfl) (by kernel_rfl) (fun _ _ _ h => h) (Or.inl ⟨by rfl, ?y_12_1⟩) (by assumption) ?_
      case y_12_1 => (intro wq hSw; (try dsimp only at hSw); go_simp; first | done | with_reducible rfl)
      try simp only [Act.put, List.setIfInBounds_toArray, List.set_cons_zero, List.set_cons_succ]
      refine wpAnyH_take (i := 13) (oi := { dst := some 48, op := Go.Op.fieldAddr 60 (Go.Operand.tmp 47) 3, type := 0, pos := "wal.go:54", after := #[{ on := 12, ground := Go.Ground.data }, { on := 0, ground := Go.Ground.phase }, { on := 1, ground := Go.Ground.textOnly Go.Departure.lateStores }, { on := 2, ground := Go.Ground.textOnly Go.Departure.lateStores }, { on := 3, ground := Go.Ground.textOnly Go.Departure.lateStores }, { on := 4, ground := Go.Ground.phase }, { on := 5, ground := Go.Ground.textOnly Go.Departure.lateStores }, { on := 6, ground := Go.Ground.textOnly Go.Departure.lateStores }, { on := 7, ground := Go.Ground.textOnly Go.Departure.lateStores }, { on := 8, ground := Go.Ground.textOnly Go.Departure.lateStores }, { on := 9, ground := Go.Ground.textOnly Go.Departure.lateStoresUnsure }, { on := 10, ground := Go.Ground.textOnly Go.Departure.lateStores }, { on := 11, ground := Go.Ground.textOnly Go.Departure.lateStoresUnsure }], guard := none }) (v := ?v_13_1) rfl (by kernel_rfl) (by kernel_rfl) (by kernel_rfl) (fun _ _ _ h => h) (Or.inl ⟨by rfl, ?y_13_1⟩) (by assumption) ?_
      case y_13_1 => (intro wq hSw; (try dsimp only at hSw); go_simp; first | done | with_reducible rfl)
      try simp only [Act.put, List.setIfInBounds_toArray, List.set_cons_zero, List.set_cons_succ]
      refine wpAnyH_ready (rs := [14]) (by kernel_rfl) (by simp) ?_
      refine AllReadyH.cons (o := { dst := none, op := Go.Op.store 3 (Go.Operand.tmp 48) (Go.Operand.tmp 39), type := 0, pos := "wal.go:54", after := #[{ on := 13, ground := Go.Ground.data }, { on := 4, ground := Go.Ground.data }, { on := 0, ground := Go.Ground.phase }, { on := 1, ground := Go.Ground.textOnly Go.Departure.lateStores }, { on := 2, ground := Go.Ground.textOnly Go.Departure.lateStores }, { on := 3, ground := Go.Ground.textOnly Go.Departure.lateStores }, { on := 4, ground := Go.Ground.phase }, { on := 5, ground := Go.Ground.textOnly Go.Departure.lateStores }, { on := 6, ground := Go.Ground.textOnly Go.Departure.lateStores }, { on := 7, ground := Go.Ground.textOnly Go.Departure.lateStores }, { on := 8, ground := Go.Ground.textOnly Go.Departure.lateStores }, { on := 9, ground := Go.Ground.textOnly Go.Departure.lateStoresUnsure }, { on := 10, ground := Go.Ground.textOnly Go.Departure.lateStores }, { on := 11, ground := Go.Ground.textOnly Go.Departure.lateStoresUnsure }], guard := none }) rfl (fun KQ hKQ => ?_) AllReadyH.nil
      go_simp
      refine hKQ.out _ _ ?s_14 (fun hHeld14 => ?_)
      case s_14 => exact HSK.out.1
      clear hKQ KQ
      try simp only [Act.put]
      refine wpAnyH_take (i := 15) (oi := { dst := some 49, op := Go.Op.nilCheck (Go.Operand.tmp 36), type := 0, pos := "wal.go:54", after := #[{ on := 1, ground := Go.Ground.data }, { on := 0, ground := Go.Ground.phase }, { on := 1, ground := Go.Ground.phase }, { on := 2, ground := Go.Ground.textOnly Go.Departure.lateStores }, { on := 3, ground := Go.Ground.textOnly Go.Departure.lateStores }, { on := 4, ground := Go.Ground.phase }, { on := 5, ground := Go.Ground.phase }, { on := 6, ground := Go.Ground.phase }, { on := 7, ground := Go.Ground.textOnly Go.Departure.lateStores }, { on := 8, ground := Go.Ground.textOnly Go.Departure.lateStores }, { on := 9, ground := Go.Ground.textOnly Go.Departure.lateStoresUnsure }, { on := 10, ground := Go.Ground.textOnly Go.Departure.lateStores }, { on := 11, ground := Go.Ground.textOnly Go.Departure.lateStoresUnsure }, { on := 12, ground := Go.Ground.phase }, { on := 13, ground := Go.Ground.phase }, { on := 14, ground := Go.Ground.phase }], guard := none }) (v := ?v_15_1) rfl (by kernel_rfl) (by kernel_rfl) (by kernel_rfl) (fun _ _ _ h => h) (Or.inl ⟨by rfl, ?y_15_1⟩) (by assumption) ?_
      case y_15_1 => (intro wq hSw; (try dsimp only at hSw); go_simp; first | done | with_reducible rfl)
      try simp only [Act.put, List.setIfInBounds_toArray, List.set_cons_zero, List.set_cons_succ]
      refine wpAnyH_take (i := 16) (oi := { dst := some 50, op := Go.Op.fieldAddr 60 (Go.Operand.tmp 49) 4, type := 0, pos := "wal.go:54", after := #[{ on := 15, ground := Go.Ground.data }, { on := 0, ground := Go.Ground.phase }, { on := 1, ground := Go.Ground.phase }, { on := 2, ground := Go.Ground.textOnly Go.Departure.lateStores }, { on := 3, ground := Go.Ground.textOnly Go.Departure.lateStores }, { on := 4, ground := Go.Ground.phase }, { on := 5, ground := Go.Ground.phase }, { on := 6, ground := Go.Ground.phase }, { on := 7, ground := Go.Ground.textOnly Go.Departure.lateStores }, { on := 8, ground := Go.Ground.textOnly Go.Departure.lateStores }, { on := 9, ground := Go.Ground.textOnly Go.Departure.lateStoresUnsure }, { on := 10, ground := Go.Ground.textOnly Go.Departure.lateStores }, { on := 11, ground := Go.Ground.textOnly Go.Departure.lateStoresUnsure }, { on := 12, ground := Go.Ground.phase }, { on := 13, ground := Go.Ground.phase }, { on := 14, ground := Go.Ground.phase }], guard := none }) (v := ?v_16_1) rfl (by kernel_rfl) (by kernel_rfl) (by kernel_rfl) (fun _ _ _ h => h) (Or.inl ⟨by rfl, ?y_16_1⟩) (by assumption) ?_
      case y_16_1 => (intro wq hSw; (try dsimp only at hSw); go_simp; first | done | with_reducible rfl)
      try simp only [Act.put, List.setIfInBounds_toArray, List.set_cons_zero, List.set_cons_succ]
      refine wpAnyH_ready (rs := [17]) (by kernel_rfl) (by simp) ?_
      refine AllReadyH.cons (o := { dst := none, op := Go.Op.store 58 (Go.Operand.tmp 50) (Go.Operand.tmp 41), type := 0, pos := "wal.go:54", after := #[{ on := 16, ground := Go.Ground.data }, { on := 6, ground := Go.Ground.data }, { on := 14, ground := Go.Ground.chain }, { on := 0, ground := Go.Ground.phase }, { on := 1, ground := Go.Ground.phase }, { on := 2, ground := Go.Ground.textOnly Go.Departure.lateStores }, { on := 3, ground := Go.Ground.textOnly Go.Departure.lateStores }, { on := 4, ground := Go.Ground.phase }, { on := 5, ground := Go.Ground.phase }, { on := 6, ground := Go.Ground.phase }, { on := 7, ground := Go.Ground.textOnly Go.Departure.lateStores }, { on := 8, ground := Go.Ground.textOnly Go.Departure.lateStores }, { on := 9, ground := Go.Ground.textOnly Go.Departure.lateStoresUnsure }, { on := 10, ground := Go.Ground.textOnly Go.Departure.lateStores }, { on := 11, ground := Go.Ground.textOnly Go.Departure.lateStoresUnsure }, { on := 12, ground := Go.Ground.phase }, { on := 13, ground := Go.Ground.phase }, { on := 14, ground := Go.Ground.phase }], guard := none }) rfl (fun KQ hKQ => ?_) AllReadyH.nil
      go_simp
      refine hKQ.out _ _ ?s_17 (fun hHeld17 => ?_)
      case s_17 => exact HSK.out.2.1
      clear hKQ KQ
      try simp only [Act.put]
      refine wpAnyH_take (i := 18) (oi := { dst := some 51, op := Go.Op.nilCheck (Go.Operand.tmp 37), type := 0, pos := "wal.go:54", after := #[{ on := 2, ground := Go.Ground.data }, { on := 0, ground := Go.Ground.phase }, { on := 1, ground := Go.Ground.phase }, { on := 2, ground := Go.Ground.phase }, { on := 3, ground := Go.Ground.textOnly Go.Departure.lateStores }, { on := 4, ground := Go.Ground.phase }, { on := 5, ground := Go.Ground.phase }, { on := 6, ground := Go.Ground.phase }, { on := 7, ground := Go.Ground.phase }, { on := 8, ground := Go.Ground.phase }, { on := 9, ground := Go.Ground.phase }, { on := 10, ground := Go.Ground.textOnly Go.Departure.lateStores }, { on := 11, ground := Go.Ground.textOnly Go.Departure.lateStoresUnsure }, { on := 12, ground := Go.Ground.phase }, { on := 13, ground := Go.Ground.phase }, { on := 14, ground := Go.Ground.phase }, { on := 15, ground := Go.Ground.phase }, { on := 16, ground := Go.Ground.phase }, { on := 17, ground := Go.Ground.phase }], guard := none }) (v := ?v_18_1) rfl (by kernel_rfl) (by kernel_rfl) (by kernel_rfl) (fun _ _ _ h => h) (Or.inl ⟨by rfl, ?y_18_1⟩) (by assumption) ?_
      case y_18_1 => (intro wq hSw; (try dsimp only at hSw); go_simp; first | done | with_reducible rfl)
      try simp only [Act.put, List.setIfInBounds_toArray, List.set_cons_zero, List.set_cons_succ]
      refine wpAnyH_take (i := 19) (oi := { dst := some 52, op := Go.Op.fieldAddr 60 (Go.Operand.tmp 51) 5, type := 0, pos := "wal.go:54", after := #[{ on := 18, ground := Go.Ground.data }, { on := 0, ground := Go.Ground.phase }, { on := 1, ground := Go.Ground.phase }, { on := 2, ground := Go.Ground.phase }, { on := 3, ground := Go.Ground.textOnly Go.Departure.lateStores }, { on := 4, ground := Go.Ground.phase }, { on := 5, ground := Go.Ground.phase }, { on := 6, ground := Go.Ground.phase }, { on := 7, ground := Go.Ground.phase }, { on := 8, ground := Go.Ground.phase }, { on := 9, ground := Go.Ground.phase }, { on := 10, ground := Go.Ground.textOnly Go.Departure.lateStores }, { on := 11, ground := Go.Ground.textOnly Go.Departure.lateStoresUnsure }, { on := 12, ground := Go.Ground.phase }, { on := 13, ground := Go.Ground.phase }, { on := 14, ground := Go.Ground.phase }, { on := 15, ground := Go.Ground.phase }, { on := 16, ground := Go.Ground.phase }, { on := 17, ground := Go.Ground.phase }], guard := none }) (v := ?v_19_1) rfl (by kernel_rfl) (by kernel_rfl) (by kernel_rfl) (fun _ _ _ h => h) (Or.inl ⟨by rfl, ?y_19_1⟩) (by assumption) ?_
      case y_19_1 => (intro wq hSw; (try dsimp only at hSw); go_simp; first | done | with_reducible rfl)
      try simp only [Act.put, List.setIfInBounds_toArray, List.set_cons_zero, List.set_cons_succ]
      refine wpAnyH_ready (rs := [20]) (by kernel_rfl) (by simp) ?_
      refine AllReadyH.cons (o := { dst := none, op := Go.Op.store 3 (Go.Operand.tmp 52) (Go.Operand.tmp 44), type := 0, pos := "wal.go:54", after := #[{ on := 19, ground := Go.Ground.data }, { on := 9, ground := Go.Ground.data }, { on := 17, ground := Go.Ground.chain }, { on := 0, ground := Go.Ground.phase }, { on := 1, ground := Go.Ground.phase }, { on := 2, ground := Go.Ground.phase }, { on := 3, ground := Go.Ground.textOnly Go.Departure.lateStores }, { on := 4, ground := Go.Ground.phase }, { on := 5, ground := Go.Ground.phase }, { on := 6, ground := Go.Ground.phase }, { on := 7, ground := Go.Ground.phase }, { on := 8, ground := Go.Ground.phase }, { on := 9, ground := Go.Ground.phase }, { on := 10, ground := Go.Ground.textOnly Go.Departure.lateStores }, { on := 11, ground := Go.Ground.textOnly Go.Departure.lateStoresUnsure }, { on := 12, ground := Go.Ground.phase }, { on := 13, ground := Go.Ground.phase }, { on := 14, ground := Go.Ground.phase }, { on := 15, ground := Go.Ground.phase }, { on := 16, ground := Go.Ground.phase }, { on := 17, ground := Go.Ground.phase }], guard := none }) rfl (fun KQ hKQ => ?_) AllReadyH.nil
      go_simp
      refine hKQ.out _ _ ?s_20 (fun hHeld20 => ?_)
      case s_20 => exact HSK.out.2.2.1
      clear hKQ KQ
      try simp only [Act.put]
      refine wpAnyH_take (i := 21) (oi := { dst := some 53, op := Go.Op.nilCheck (Go.Operand.tmp 38), type := 0, pos := "wal.go:54", after := #[{ on := 3, ground := Go.Ground.data }, { on := 0, ground := Go.Ground.phase }, { on := 1, ground := Go.Ground.phase }, { on := 2, ground := Go.Ground.phase }, { on := 3, ground := Go.Ground.phase }, { on := 4, ground := Go.Ground.phase }, { on := 5, ground := Go.Ground.phase }, { on := 6, ground := Go.Ground.phase }, { on := 7, ground := Go.Ground.phase }, { on := 8, ground := Go.Ground.phase }, { on := 9, ground := Go.Ground.phase }, { on := 10, ground := Go.Ground.phase }, { on := 11, ground := Go.Ground.phase }, { on := 12, ground := Go.Ground.phase }, { on := 13, ground := Go.Ground.phase }, { on := 14, ground := Go.Ground.phase }, { on := 15, ground := Go.Ground.phase }, { on := 16, ground := Go.Ground.phase }, { on := 17, ground := Go.Ground.phase }, { on := 18, ground := Go.Ground.phase }, { on := 19, ground := Go.Ground.phase }, { on := 20, ground := Go.Ground.phase }], guard := none }) (v := ?v_21_1) rfl (by kernel_rfl) (by kernel_rfl) (by kernel_rfl) (fun _ _ _ h => h) (Or.inl ⟨by rfl, ?y_21_1⟩) (by assumption) ?_
      case y_21_1 => (intro wq hSw; (try dsimp only at hSw); go_simp; first | done | with_reducible rfl)
      try simp only [Act.put, List.setIfInBounds_toArray, List.set_cons_zero, List.set_cons_succ]
      refine wpAnyH_take (i := 22) (oi := { dst := some 54, op := Go.Op.fieldAddr 60 (Go.Operand.tmp 53) 6, type := 0, pos := "wal.go:54", after := #[{ on := 21, ground := Go.Ground.data }, { on := 0, ground := Go.Ground.phase }, { on := 1, ground := Go.Ground.phase }, { on := 2, ground := Go.Ground.phase }, { on := 3, ground := Go.Ground.phase }, { on := 4, ground := Go.Ground.phase }, { on := 5, ground := Go.Ground.phase }, { on := 6, ground := Go.Ground.phase }, { on := 7, ground := Go.Ground.phase }, { on := 8, ground := Go.Ground.phase }, { on := 9, ground := Go.Ground.phase }, { on := 10, ground := Go.Ground.phase }, { on := 11, ground := Go.Ground.phase }, { on := 12, ground := Go.Ground.phase }, { on := 13, ground := Go.Ground.phase }, { on := 14, ground := Go.Ground.phase }, { on := 15, ground := Go.Ground.phase }, { on := 16, ground := Go.Ground.phase }, { on := 17, ground := Go.Ground.phase }, { on := 18, ground := Go.Ground.phase }, { on := 19, ground := Go.Ground.phase }, { on := 20, ground := Go.Ground.phase }], guard := none }) (v := ?v_22_1) rfl (by kernel_rfl) (by kernel_rfl) (by kernel_rfl) (fun _ _ _ h => h) (Or.inl ⟨by rfl, ?y_22_1⟩) (by assumption) ?_
      case y_22_1 => (intro wq hSw; (try dsimp only at hSw); go_simp; first | done | with_reducible rfl)
      try simp only [Act.put, List.setIfInBounds_toArray, List.set_cons_zero, List.set_cons_succ]
      refine wpAnyH_ready (rs := [23]) (by kernel_rfl) (by simp) ?_
      refine AllReadyH.cons (o := { dst := none, op := Go.Op.store 3 (Go.Operand.tmp 54) (Go.Operand.tmp 46), type := 0, pos := "wal.go:54", after := #[{ on := 22, ground := Go.Ground.data }, { on := 11, ground := Go.Ground.data }, { on := 20, ground := Go.Ground.chain }, { on := 0, ground := Go.Ground.phase }, { on := 1, ground := Go.Ground.phase }, { on := 2, ground := Go.Ground.phase }, { on := 3, ground := Go.Ground.phase }, { on := 4, ground := Go.Ground.phase }, { on := 5, ground := Go.Ground.phase }, { on := 6, ground := Go.Ground.phase }, { on := 7, ground := Go.Ground.phase }, { on := 8, ground := Go.Ground.phase }, { on := 9, ground := Go.Ground.phase }, { on := 10, ground := Go.Ground.phase }, { on := 11, ground := Go.Ground.phase }, { on := 12, ground := Go.Ground.phase }, { on := 13, ground := Go.Ground.phase }, { on := 14, ground := Go.Ground.phase }, { on := 15, ground := Go.Ground.phase }, { on := 16, ground := Go.Ground.phase }, { on := 17, ground := Go.Ground.phase }, { on := 18, ground := Go.Ground.phase }, { on := 19, ground := Go.Ground.phase }, { on := 20, ground := Go.Ground.phase }], guard := none }) rfl (fun KQ hKQ => ?_) AllReadyH.nil
      go_simp
      refine hKQ.out _ _ ?s_23 (fun hHeld23 => ?_)
      case s_23 => exact HSK.out.2.2.2
      clear hKQ KQ
      try simp only [Act.put]
      refine wpAnyH_done (by kernel_rfl) ?_ _
      clear hHeld hHeld14 hHeld17 hHeld20 hHeld23 HSK p3 p4 p5 p6 pf
      have HG7 := grown_more (grown_more (grown_more (grown_more (World.grownBy.refl w6 (some w.heap.size)) 3 (.int .i64 j)) 4 (.int .u64 gg)) 5 (.int .i64 n4)) 6 (.int .i64 n3)
      have hj1 : ¬ (j : Int) = -1 := by omega
      have HW7 : Blk 60 ((((w6.setCell ⟨w.heap.size, 3, none⟩ (.int .i64 j)).setCell ⟨w.heap.size, 4, none⟩ (.int .u64 gg)).setCell ⟨w.heap.size, 5, none⟩ (.int .i64 n4)).setCell ⟨w.heap.size, 6, none⟩ (.int .i64 n3)) w.heap.size (cellsW a { Pk.X with file := j, gen := gg, recs := M4, size := n3 }) := by
        have := (((H4.out.set_ 3 (.int .i64 j)).set_ 4 (.int .u64 gg)).set_ 5 (.int .i64 n4)).set_ 6 (.int .i64 n3)
        rw [show cellsW a { Pk.X with file := j, gen := gg, recs := M4, size := n3 } = ((((cellsW a Pk.X).set 3 (.int .i64 j)).set 4 (.int .u64 gg)).set 5 (.int .i64 n4)).set 6 (.int .i64 n3) by
          unfold cellsW
          simp [hj1, hMn]]
        exact this
      have HB7 := HB4.out.grown HG7 HB4.out.size (fun k hk => by cases hk; exact Nat.le_refl _)
      have HR7 : RowF _ (w.heap.size + 1) A4 n4 c4' M4 := HRo.out.keep HG7.size (fun k h1 h2 => HG7.block k h2 (by intro e; cases e; omega))
      have f1 := HF6.out.cell 1
      have f2 := HF6.out.cell 2
      simp only [List.getElem?_cons_zero, List.getElem?_cons_succ] at f1 f2
      generalize ((((w6.setCell ⟨w.heap.size, 3, none⟩ (.int .i64 j)).setCell ⟨w.heap.size, 4, none⟩ (.int .u64 gg)).setCell ⟨w.heap.size, 5, none⟩ (.int .i64 n4)).setCell ⟨w.heap.size, 6, none⟩ (.int .i64 n3)) = w7 at *
      clear HG7 HF6 H4 HB4 HF4 HRo
      have HE7 := Lib.hid (And.intro HW7 (And.intro HB7 HR7))
      clear HW7 HB7 HR7
      go_wp2_with fail
      go_quiet (fail)
      go_wp2_with fail
      go_roundw
      case rel => exact ⟨j + 1, A4, n4, c4', by omega, by go_num, rfl, rfl, by rw [HN.out], rfl, by rw [HN.out]; exact HE7.out.2.2, by rw [HN.out]; exact HE7.out.1, below_drewN HE7.out.2.1 nq, by first | exact fun _ => HQO.out | exact fun _ => trivial⟩
      case measure => simp [intOf]; omega
    · have HN := Lib.hid (show stageP D (j + 1) = Pk by
        rw [HSU.out, moreP_no (fun h => hc (by rw [(hW h.1).1]; exact h.2))])
      clear HSU hW hNW
      go_quiet (fail)
      go_wp2_with fail
      go_roundw
      case rel => exact ⟨j + 1, A, nr, cr, by omega, by go_num, rfl, rfl, by rw [HN.out], rfl, by rw [HN.out]; exact HR5.out, by rw [HN.out]; exact HW5.out, below_drewN HB5.out nq, by first | exact fun _ => HQO.out | exact fun _ => trivial⟩
      case measure => simp [intOf]; omega
end Go.Proofs.Ytafdgibkhefplaa.wal
