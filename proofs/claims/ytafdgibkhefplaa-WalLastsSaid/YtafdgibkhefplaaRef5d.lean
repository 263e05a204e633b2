/- What the document's log (antipoderef5) comes to: Open. Conditions: the disk is a good one. -/
import Derived.Test.YtafdgibkhefplaaRef5b
import Derived.Test.YtafdgibkhefplaaRef5c
namespace Go.Proofs.Ytafdgibkhefplaa.ref5
open Go.RowKit Go.Proofs.Ytafdgibkhefplaa.kit Go.Proofs.Ytafdgibkhefplaa.nums Go.Proofs.Ytafdgibkhefplaa.ds Go.Proofs.Ytafdgibkhefplaa.rec_ Go.Proofs.Ytafdgibkhefplaa.ws Go.Proofs.Ytafdgibkhefplaa.ref4 Go.Proofs.Ytafdgibkhefplaa.bytes
set_option linter.unusedVariables false

/-- What Open ends in. -/
def RetOpen (w : World) (g : Nat) (o : Out) (e : Ending) (w' : World) : Prop :=
  ((o.e = 0 ∧ ∃ p v, e = .returned (.tuple #[.pointer (some ⟨p, 0, none⟩), .int .i64 0]) ∧ w.heap.size ≤ p ∧ RefW w' p g w.heap.size o.X o.D v) ∨ (o.e ≠ 0 ∧ e = .returned (.tuple #[.pointer none, .int .i64 o.e]) ∧ IsRef w' g o.D)) ∧ w.grownBy w' (some g)
def stageO (D : DS) (j : Nat) : Pick := if j = 0 then ⟨WS.start D.powers, true⟩ else if j = 1 then (Pick.more ⟨WS.start D.powers, true⟩ 0 D.a.length (lookL D.a)) else pick D
theorem stageO_succ (D : DS) (j : Nat) (hj : j < 2) : stageO D (j + 1) = (stageO D j).more j (D.file j).length (lookL (D.file j)) := by
  rcases (by omega : j = 0 ∨ j = 1) with rfl | rfl <;> rfl
theorem stageO_fit {D : DS} (h : D.Good) (j : Nat) (hj : j ≤ 2) : Fit (stageO D j).X D := by
  rcases (by omega : j = 0 ∨ j = 1 ∨ j = 2) with rfl | rfl | rfl
  · exact Fit.start D _ h.p1
  · exact Fit.more (P := ⟨WS.start D.powers, true⟩) (Fit.start D _ h.p1) h.ya h.na (.inl rfl) rfl
  · exact Fit.pick h
theorem more_yes {P : Pick} {f : Int} {n : Nat} {K : Look} (h : K.whole = true ∧ P.X.gen < K.gen) : P.more f n K = ⟨{ P.X with file := f, gen := K.gen, recs := K.recs, size := n }, K.spoilt⟩ := by unfold Pick.more; rw [if_pos h]
theorem more_no {P : Pick} {f : Int} {n : Nat} {K : Look} (h : ¬ (K.whole = true ∧ P.X.gen < K.gen)) : P.more f n K = P := by unfold Pick.more; rw [if_neg h]
/-- Another file was taken. -/
theorem RefW.pick {W : World} {p g base : Nat} {X : WS} {D : DS} {v v2 : Value} {f gg : Int} {rs : List (List Int)} {n : Nat} (h : RefW W p g base X D v) (hO : OwnV 9 W base v2 (rs.map strV)) :
    RefW (((W.setCell ⟨p, 1, none⟩ (.int .i64 f)).setCell ⟨p, 2, none⟩ (.int .u64 gg)).setCell ⟨p, 3, none⟩ v2) p g base { X with file := f, gen := gg, recs := rs, size := n } D v2 := by
  have hG : W.grownBy (((W.setCell ⟨p, 1, none⟩ (.int .i64 f)).setCell ⟨p, 2, none⟩ (.int .u64 gg)).setCell ⟨p, 3, none⟩ v2) (some p) := grown_trans (grown_trans (grown_set _ _ _ _) (grown_set _ _ _ _)) (grown_set _ _ _ _)
  refine ⟨((Blk.set_ h.blk 1 _).set_ 2 _).set_ 3 _, hO.grown hG (fun k hk e => ?_), h.ref.keep (hG.block g h.ref.lt (by intro e; exact h.pg (by simpa using e.symm)))⟩
  obtain rfl : p = k := by simpa using e
  obtain ⟨_, cs, h2⟩ := ownV_block hO hk
  have h1 := h.blk
  unfold Blk at h1
  rw [h1] at h2
  simp only [Option.some.injEq, Obj.cells.injEq] at h2
  exact absurd h2.2.1 (by decide)
theorem chg_grown {w0 w w' : World} {p g : Nat} {v v' : Value} (hB : Below w0.heap.size w0 w) (h : Chg (fpW p g v) (fpW p g v') w w') (hp : w0.heap.size ≤ p) (hv : ∀ k, v.ownBlock = some k → w0.heap.size ≤ k) : w0.grownBy w' (some g) :=
  ⟨h.os.trans hB.os, h.tape.trans hB.tape, h.output.trans hB.output, Nat.le_trans hB.size h.size, fun k hk hn => by
    rw [h.block k (Nat.lt_of_lt_of_le hk hB.size) (fun hf => by
      rcases hf with hf | hf | hf
      · omega
      · exact hn (by rw [hf])
      · have := hv k hf; omega)]
    exact hB.block k hk⟩
set_option maxRecDepth 100000 in
set_option maxHeartbeats 4000000 in
theorem open_any (g : Nat) (D : DS) (w : World) (h : IsRef w g D) (hD : D.Good) (hs : D.stepped ≤ 999000) :
    Calls Try.prog 33 #[.pointer (some ⟨g, 0, none⟩)] w (RetOpen w g (openO D)) := by
  have hb0 : Below w.heap.size w (w.alloc (.cells #[.pointer (some ⟨g, 0, none⟩), .int .i64 (-1), .int .u64 0, .slice none 0 0, .int .i64 D.powers, .bool false] 80)) := (Below.refl _ _).alloc (Nat.le_refl _) _
  have h0 : RefW (w.alloc (.cells #[.pointer (some ⟨g, 0, none⟩), .int .i64 (-1), .int .u64 0, .slice none 0 0, .int .i64 D.powers, .bool false] 80)) w.heap.size g w.heap.size (stageO D 0).X D (.slice none 0 0) := ⟨heap_alloc_new w _, OwnV.nil _ _ _, h.below hb0⟩
  have c6 := h.c6
  have hlg := h.lt
  go_enter Try.func33, Try.ntmps33
  go_upto_region 2 with (fail)
  generalize w.alloc (.cells #[.pointer (some ⟨g, 0, none⟩), .int .i64 (-1), .int .u64 0, .slice none 0 0, .int .i64 D.powers, .bool false] 80) = w0 at *
  clear c6 h
  go_wp2_with fail
  go_loopw [5, 6] (fun sp i wr => ∃ (j : Nat) (v : Value), j ≤ 2 ∧ i = .int .i64 j ∧ sp = .bool (stageO D j).spoilt ∧ RefW wr w.heap.size g w.heap.size (stageO D j).X D v ∧ Below w.heap.size w wr ∧ (0 < j → D.off = false)) (fun _ i _ => 2 - (intOf i).toNat)
  case atStart => exact ⟨0, _, by omega, rfl, rfl, h0, hb0, fun h => absurd h (by omega)⟩
  case round =>
    obtain ⟨j, v, hj, rfl, rfl, hW, hB, hoff⟩ := hrel
    have hps := hB.size
    by_cases hlt : j < 2
    · have C1 := Lib.hid (ref4.read_any g D j wr hW.ref)
      rcases ho : D.off with _ | _
      · have hm : D.may j = 0 := by unfold DS.may; rw [if_neg (by rw [ho]; decide), if_pos (by omega)]
        have hrl : D.readL j = D.file j := by unfold DS.readL; rw [if_neg (by omega)]
        rw [hm, hrl] at C1
        have hfg : Byt (D.file j) ∧ (D.file j).length ≤ 4194304 := by
          rcases (by omega : j = 0 ∨ j = 1) with rfl | rfl
          · exact ⟨hD.ya, hD.na⟩
          · exact ⟨hD.yb, hD.nb⟩
        have CL := Lib.hid (look_any (D.file j) wr hfg.1 hfg.2)
        have HS := Lib.hid (stageO_succ D j hlt)
        have HQO := Lib.hid ho
        have HW := Lib.hid hW
        have HFIT := Lib.hid (stageO_fit hD j hj)
        clear hm hrl hfg hW hoff ho
        generalize lookL (D.file j) = K at *
        generalize (D.file j).length = nf at *
        generalize D.file j = fl at *
        generalize stageO D j = Pk at *
        go_wp2_with fail
        refine C1.out.mono ?_
        rintro e w1 ⟨rfl, rfl⟩
        go_wp2_with fail
        refine CL.out.mono ?_
        rintro e w2 ⟨wh, sp, gg, v2, rs, rfl, hO2, hB2, hwh, hK⟩
        have HK := Lib.hid (And.intro hwh hK)
        have hsl := hO2.slice
        obtain ⟨A2, c2, hv2, hc2, hc2m, _⟩ := hsl
        obtain ⟨n2, hn2⟩ : ∃ n2, (rs.map strV).length = n2 := ⟨_, rfl⟩
        rw [hn2] at hv2 hc2
        subst hv2
        clear C1 CL hwh hK
        have HO2 := Lib.hid hO2
        clear hO2
        have hF : Blk 108 (w2.alloc (.cells #[.bool wh, .bool sp, .int .u64 gg, .slice A2 n2 c2] 108)) w2.heap.size [.bool wh, .bool sp, .int .u64 gg, .slice A2 n2 c2] := heap_alloc_new w2 _
        have hB10 : Below w2.heap.size w2 (w2.alloc (.cells #[.bool wh, .bool sp, .int .u64 gg, .slice A2 n2 c2] 108)) := (Below.refl _ _).alloc (Nat.le_refl _) _
        have hgp : w2.heap.size ≠ w.heap.size := by have := hB2.size; have := HW.out.blk.lt; omega
        go_upto_region 10 with (fail)
        generalize (w2.alloc (.cells #[.bool wh, .bool sp, .int .u64 gg, .slice A2 n2 c2] 108)) = w3 at *
        have H3 := Lib.hid (HW.out.below (hB2.trans (hB10.mono hB2.size)))
        have HB3 := Lib.hid (hB.trans ((hB2.trans (hB10.mono hB2.size)).mono hB.size))
        have f0 := hF.cell 0
        have f1 := hF.cell 1
        have f2 := hF.cell 2
        have f3 := hF.cell 3
        simp only [List.getElem?_cons_zero, List.getElem?_cons_succ] at f0 f1 f2 f3
        have p2 := H3.out.c2
        have HF := Lib.hid hF
        clear hF
        by_cases hc : wh = true ∧ Pk.X.gen < gg
        · obtain ⟨rfl, hgt⟩ := hc
          obtain ⟨e1, e2, e3⟩ := HK.out.2 rfl
          have HN := Lib.hid (show stageO D (j + 1) = ⟨{ Pk.X with file := j, gen := gg, recs := rs, size := nf }, sp⟩ by rw [HS.out, more_yes ⟨HK.out.1.symm, by rw [← e2]; exact hgt⟩, ← e2, ← e3, ← e1])
          clear e1 e2 e3 HS HK
          go_quiet (fail)
          go_upto_region 11 with (fail)
          have H4 := Lib.hid (show RefW (w3.drewN nq).drew w.heap.size g w.heap.size Pk.X D v from (H3.out.drewN nq).drewN 1)
          have HB4 := Lib.hid (show Below w.heap.size w (w3.drewN nq).drew from (HB3.out.trans (drewN_below w3 nq _)).trans (drewN_below (w3.drewN nq) 1 _))
          have HF4 := Lib.hid (show Blk 108 (w3.drewN nq).drew w2.heap.size [.bool true, .bool sp, .int .u64 gg, .slice A2 n2 c2] from HF.out)
          have HO4 := Lib.hid (show OwnV 9 (w3.drewN nq).drew w.heap.size (.slice A2 n2 c2) (rs.map strV) from (HO2.out.below hB10).more hps)
          clear H3 HB3 HF HO2 f0 f1 f2 f3 p2
          refine wp_region_held_drew (S := fun wq => wq.cell? ⟨w2.heap.size, 1, none⟩ = some (.bool sp) ∧ wq.cell? ⟨w2.heap.size, 2, none⟩ = some (.int .u64 gg) ∧ wq.cell? ⟨w2.heap.size, 3, none⟩ = some (.slice A2 n2 c2)) (by kernel_rfl) ?s_0 (fun hHeld => ?_)
          case s_0 => exact ⟨HF4.out.cell 1, HF4.out.cell 2, HF4.out.cell 3⟩
          generalize (w3.drewN nq).drew = w5 at *
          have HSK := Lib.hid (show ((w5.setCell ⟨w.heap.size, 1, none⟩ (.int .i64 j)).cell? ⟨w2.heap.size, 1, none⟩ = some (.bool sp) ∧ (w5.setCell ⟨w.heap.size, 1, none⟩ (.int .i64 j)).cell? ⟨w2.heap.size, 2, none⟩ = some (.int .u64 gg) ∧ (w5.setCell ⟨w.heap.size, 1, none⟩ (.int .i64 j)).cell? ⟨w2.heap.size, 3, none⟩ = some (.slice A2 n2 c2)) ∧ (((w5.setCell ⟨w.heap.size, 1, none⟩ (.int .i64 j)).setCell ⟨w.heap.size, 2, none⟩ (.int .u64 gg)).cell? ⟨w2.heap.size, 1, none⟩ = some (.bool sp) ∧ ((w5.setCell ⟨w.heap.size, 1, none⟩ (.int .i64 j)).setCell ⟨w.heap.size, 2, none⟩ (.int .u64 gg)).cell? ⟨w2.heap.size, 2, none⟩ = some (.int .u64 gg) ∧ ((w5.setCell ⟨w.heap.size, 1, none⟩ (.int .i64 j)).setCell ⟨w.heap.size, 2, none⟩ (.int .u64 gg)).cell? ⟨w2.heap.size, 3, none⟩ = some (.slice A2 n2 c2)) ∧ ((((w5.setCell ⟨w.heap.size, 1, none⟩ (.int .i64 j)).setCell ⟨w.heap.size, 2, none⟩ (.int .u64 gg)).setCell ⟨w.heap.size, 3, none⟩ (.slice A2 n2 c2)).cell? ⟨w2.heap.size, 1, none⟩ = some (.bool sp) ∧ (((w5.setCell ⟨w.heap.size, 1, none⟩ (.int .i64 j)).setCell ⟨w.heap.size, 2, none⟩ (.int .u64 gg)).setCell ⟨w.heap.size, 3, none⟩ (.slice A2 n2 c2)).cell? ⟨w2.heap.size, 2, none⟩ = some (.int .u64 gg) ∧ (((w5.setCell ⟨w.heap.size, 1, none⟩ (.int .i64 j)).setCell ⟨w.heap.size, 2, none⟩ (.int .u64 gg)).setCell ⟨w.heap.size, 3, none⟩ (.slice A2 n2 c2)).cell? ⟨w2.heap.size, 3, none⟩ = some (.slice A2 n2 c2)) from by
            have k1 := HF4.out.far (p := ⟨w.heap.size, 1, none⟩) hgp (.int .i64 j)
            have k2 := k1.far (p := ⟨w.heap.size, 2, none⟩) hgp (.int .u64 gg)
            have k3 := k2.far (p := ⟨w.heap.size, 3, none⟩) hgp (.slice A2 n2 c2)
            exact ⟨⟨k1.cell 1, k1.cell 2, k1.cell 3⟩, ⟨k2.cell 1, k2.cell 2, k2.cell 3⟩, ⟨k3.cell 1, k3.cell 2, k3.cell 3⟩⟩)
          have p1 := H4.out.c1
          have p2 := H4.out.c2
          have p3 := H4.out.c3
          have pf := fun i => H4.out.blk.frozen i
          refine wpAnyH_take (i := 0) (oi := { dst := some 44, op := Go.Op.move (Go.Operand.tmp 4), type := 31, pos := "ref.go:66", after := #[], guard := none }) (v := ?v_0_1) rfl (by kernel_rfl) (by kernel_rfl) (by kernel_rfl) (fun _ _ _ h => h) (Or.inl ⟨by rfl, ?y_0_1⟩) (by assumption) ?_
          case y_0_1 => (intro wq hSw; (try dsimp only at hSw); go_simp; first | done | with_reducible rfl)
          try simp only [Act.put, List.setIfInBounds_toArray, List.set_cons_zero, List.set_cons_succ]
          refine wpAnyH_take (i := 1) (oi := { dst := some 45, op := Go.Op.move (Go.Operand.tmp 4), type := 31, pos := "ref.go:66", after := #[{ on := 12, ground := Go.Ground.gcOnly Go.Departure.lateStores }], guard := none }) (v := ?v_1_1) rfl (by kernel_rfl) (by kernel_rfl) (by kernel_rfl) (fun _ _ _ h => h) (Or.inl ⟨by rfl, ?y_1_1⟩) (by assumption) ?_
          case y_1_1 => (intro wq hSw; (try dsimp only at hSw); go_simp; first | done | with_reducible rfl)
          try simp only [Act.put, List.setIfInBounds_toArray, List.set_cons_zero, List.set_cons_succ]
          refine wpAnyH_take (i := 2) (oi := { dst := some 46, op := Go.Op.move (Go.Operand.tmp 4), type := 31, pos := "ref.go:66", after := #[{ on := 15, ground := Go.Ground.gcOnly Go.Departure.lateStores }], guard := none }) (v := ?v_2_1) rfl (by kernel_rfl) (by kernel_rfl) (by kernel_rfl) (fun _ _ _ h => h) (Or.inl ⟨by rfl, ?y_2_1⟩) (by assumption) ?_
          case y_2_1 => (intro wq hSw; (try dsimp only at hSw); go_simp; first | done | with_reducible rfl)
          try simp only [Act.put, List.setIfInBounds_toArray, List.set_cons_zero, List.set_cons_succ]
          refine wpAnyH_take (i := 3) (oi := { dst := some 47, op := Go.Op.move (Go.Operand.tmp 6), type := 3, pos := "ref.go:66", after := #[], guard := none }) (v := ?v_3_1) rfl (by kernel_rfl) (by kernel_rfl) (by kernel_rfl) (fun _ _ _ h => h) (Or.inl ⟨by rfl, ?y_3_1⟩) (by assumption) ?_
          case y_3_1 => (intro wq hSw; (try dsimp only at hSw); go_simp; first | done | with_reducible rfl)
          try simp only [Act.put, List.setIfInBounds_toArray, List.set_cons_zero, List.set_cons_succ]
          refine wpAnyH_take (i := 4) (oi := { dst := some 48, op := Go.Op.fieldAddr 108 (Go.Operand.tmp 9) 2, type := 0, pos := "ref.go:66", after := #[{ on := 12, ground := Go.Ground.gcOnly Go.Departure.lateStores }], guard := none }) (v := ?v_4_1) rfl (by kernel_rfl) (by kernel_rfl) (by kernel_rfl) (fun _ _ _ h => h) (Or.inl ⟨by rfl, ?y_4_1⟩) (by assumption) ?_
          case y_4_1 => (intro wq hSw; (try dsimp only at hSw); go_simp; first | done | with_reducible rfl)
          try simp only [Act.put, List.setIfInBounds_toArray, List.set_cons_zero, List.set_cons_succ]
          refine wpAnyH_take (i := 5) (oi := { dst := some 49, op := Go.Op.load 58 (Go.Operand.tmp 48), type := 58, pos := "ref.go:66", after := #[{ on := 4, ground := Go.Ground.data }, { on := 12, ground := Go.Ground.gcOnly Go.Departure.lateStores }], guard := none }) (v := ?v_5_1) rfl (by kernel_rfl) (by kernel_rfl) (by kernel_rfl) (fun _ _ _ h => h) (Or.inl ⟨by rfl, ?y_5_1⟩) (by assumption) ?_
          case y_5_1 => (intro wq hSw; (try dsimp only at hSw); go_simp; first | done | with_reducible rfl)
          try simp only [Act.put, List.setIfInBounds_toArray, List.set_cons_zero, List.set_cons_succ]
          refine wpAnyH_take (i := 6) (oi := { dst := some 50, op := Go.Op.fieldAddr 108 (Go.Operand.tmp 9) 3, type := 0, pos := "ref.go:66", after := #[{ on := 15, ground := Go.Ground.gcOnly Go.Departure.lateStores }], guard := none }) (v := ?v_6_1) rfl (by kernel_rfl) (by kernel_rfl) (by kernel_rfl) (fun _ _ _ h => h) (Or.inl ⟨by rfl, ?y_6_1⟩) (by assumption) ?_
          case y_6_1 => (intro wq hSw; (try dsimp only at hSw); go_simp; first | done | with_reducible rfl)
          try simp only [Act.put, List.setIfInBounds_toArray, List.set_cons_zero, List.set_cons_succ]
          refine wpAnyH_take (i := 7) (oi := { dst := some 51, op := Go.Op.load 44 (Go.Operand.tmp 50), type := 44, pos := "ref.go:66", after := #[{ on := 6, ground := Go.Ground.data }, { on := 15, ground := Go.Ground.gcOnly Go.Departure.lateStores }], guard := none }) (v := ?v_7_1) rfl (by kernel_rfl) (by kernel_rfl) (by kernel_rfl) (fun _ _ _ h => h) (Or.inl ⟨by rfl, ?y_7_1⟩) (by assumption) ?_
          case y_7_1 => (intro wq hSw; (try dsimp only at hSw); go_simp; first | done | with_reducible rfl)
          try simp only [Act.put, List.setIfInBounds_toArray, List.set_cons_zero, List.set_cons_succ]
          refine wpAnyH_take (i := 8) (oi := { dst := some 52, op := Go.Op.fieldAddr 108 (Go.Operand.tmp 9) 1, type := 0, pos := "ref.go:66", after := #[{ on := 18, ground := Go.Ground.gcOnly Go.Departure.lateStores }], guard := none }) (v := ?v_8_1) rfl (by kernel_rfl) (by kernel_rfl) (by kernel_rfl) (fun _ _ _ h => h) (Or.inl ⟨by rfl, ?y_8_1⟩) (by assumption) ?_
          case y_8_1 => (intro wq hSw; (try dsimp only at hSw); go_simp; first | done | with_reducible rfl)
          try simp only [Act.put, List.setIfInBounds_toArray, List.set_cons_zero, List.set_cons_succ]
          refine wpAnyH_take (i := 9) (oi := { dst := some 53, op := Go.Op.load 4 (Go.Operand.tmp 52), type := 4, pos := "ref.go:66", after := #[{ on := 8, ground := Go.Ground.data }, { on := 18, ground := Go.Ground.gcOnly Go.Departure.lateStores }], guard := none }) (v := ?v_9_1) rfl (by kernel_rfl) (by kernel_rfl) (by kernel_rfl) (fun _ _ _ h => h) (Or.inl ⟨by rfl, ?y_9_1⟩) (by assumption) ?_
          case y_9_1 => (intro wq hSw; (try dsimp only at hSw); go_simp; first | done | with_reducible rfl)
          try simp only [Act.put, List.setIfInBounds_toArray, List.set_cons_zero, List.set_cons_succ]
          refine wpAnyH_take (i := 10) (oi := { dst := some 54, op := Go.Op.nilCheck (Go.Operand.tmp 44), type := 0, pos := "ref.go:66", after := #[{ on := 0, ground := Go.Ground.data }, { on := 0, ground := Go.Ground.phase }, { on := 1, ground := Go.Ground.textOnly Go.Departure.lateStores }, { on := 2, ground := Go.Ground.textOnly Go.Departure.lateStores }, { on := 3, ground := Go.Ground.phase }, { on := 4, ground := Go.Ground.textOnly Go.Departure.lateStores }, { on := 5, ground := Go.Ground.textOnly Go.Departure.lateStores }, { on := 6, ground := Go.Ground.textOnly Go.Departure.lateStores }, { on := 7, ground := Go.Ground.textOnly Go.Departure.lateStores }, { on := 8, ground := Go.Ground.textOnly Go.Departure.lateStores }, { on := 9, ground := Go.Ground.textOnly Go.Departure.lateStores }], guard := none }) (v := ?v_10_1) rfl (by kernel_rfl) (by kernel_rfl) (by kernel_rfl) (fun _ _ _ h => h) (Or.inl ⟨by rfl, ?y_10_1⟩) (by assumption) ?_
          case y_10_1 => (intro wq hSw; (try dsimp only at hSw); go_simp; first | done | with_reducible rfl)
          try simp only [Act.put, List.setIfInBounds_toArray, List.set_cons_zero, List.set_cons_succ]
          refine wpAnyH_take (i := 11) (oi := { dst := some 55, op := Go.Op.fieldAddr 80 (Go.Operand.tmp 54) 1, type := 0, pos := "ref.go:66", after := #[{ on := 10, ground := Go.Ground.data }, { on := 0, ground := Go.Ground.phase }, { on := 1, ground := Go.Ground.textOnly Go.Departure.lateStores }, { on := 2, ground := Go.Ground.textOnly Go.Departure.lateStores }, { on := 3, ground := Go.Ground.phase }, { on := 4, ground := Go.Ground.textOnly Go.Departure.lateStores }, { on := 5, ground := Go.Ground.textOnly Go.Departure.lateStores }, { on := 6, ground := Go.Ground.textOnly Go.Departure.lateStores }, { on := 7, ground := Go.Ground.textOnly Go.Departure.lateStores }, { on := 8, ground := Go.Ground.textOnly Go.Departure.lateStores }, { on := 9, ground := Go.Ground.textOnly Go.Departure.lateStores }], guard := none }) (v := ?v_11_1) rfl (by kernel_rfl) (by kernel_rfl) (by kernel_rfl) (fun _ _ _ h => h) (Or.inl ⟨by rfl, ?y_11_1⟩) (by assumption) ?_
          case y_11_1 => (intro wq hSw; (try dsimp only at hSw); go_simp; first | done | with_reducible rfl)
          try simp only [Act.put, List.setIfInBounds_toArray, List.set_cons_zero, List.set_cons_succ]
          refine wpAnyH_ready (rs := [12]) (by kernel_rfl) (by simp) ?_
          refine AllReadyH.cons (o := { dst := none, op := Go.Op.store 3 (Go.Operand.tmp 55) (Go.Operand.tmp 47), type := 0, pos := "ref.go:66", after := #[{ on := 11, ground := Go.Ground.data }, { on := 3, ground := Go.Ground.data }, { on := 0, ground := Go.Ground.phase }, { on := 1, ground := Go.Ground.textOnly Go.Departure.lateStores }, { on := 2, ground := Go.Ground.textOnly Go.Departure.lateStores }, { on := 3, ground := Go.Ground.phase }, { on := 4, ground := Go.Ground.textOnly Go.Departure.lateStores }, { on := 5, ground := Go.Ground.textOnly Go.Departure.lateStores }, { on := 6, ground := Go.Ground.textOnly Go.Departure.lateStores }, { on := 7, ground := Go.Ground.textOnly Go.Departure.lateStores }, { on := 8, ground := Go.Ground.textOnly Go.Departure.lateStores }, { on := 9, ground := Go.Ground.textOnly Go.Departure.lateStores }], guard := none }) rfl (fun KQ hKQ => ?_) AllReadyH.nil
          go_simp
          refine hKQ.out _ _ ?s_12 (fun hHeld12 => ?_)
          case s_12 => exact HSK.out.1
          clear hKQ KQ
          try simp only [Act.put]
          refine wpAnyH_take (i := 13) (oi := { dst := some 56, op := Go.Op.nilCheck (Go.Operand.tmp 45), type := 0, pos := "ref.go:66", after := #[{ on := 1, ground := Go.Ground.data }, { on := 0, ground := Go.Ground.phase }, { on := 1, ground := Go.Ground.phase }, { on := 2, ground := Go.Ground.textOnly Go.Departure.lateStores }, { on := 3, ground := Go.Ground.phase }, { on := 4, ground := Go.Ground.phase }, { on := 5, ground := Go.Ground.phase }, { on := 6, ground := Go.Ground.textOnly Go.Departure.lateStores }, { on := 7, ground := Go.Ground.textOnly Go.Departure.lateStores }, { on := 8, ground := Go.Ground.textOnly Go.Departure.lateStores }, { on := 9, ground := Go.Ground.textOnly Go.Departure.lateStores }, { on := 10, ground := Go.Ground.phase }, { on := 11, ground := Go.Ground.phase }, { on := 12, ground := Go.Ground.phase }], guard := none }) (v := ?v_13_1) rfl (by kernel_rfl) (by kernel_rfl) (by kernel_rfl) (fun _ _ _ h => h) (Or.inl ⟨by rfl, ?y_13_1⟩) (by assumption) ?_
          case y_13_1 => (intro wq hSw; (try dsimp only at hSw); go_simp; first | done | with_reducible rfl)
          try simp only [Act.put, List.setIfInBounds_toArray, List.set_cons_zero, List.set_cons_succ]
          refine wpAnyH_take (i := 14) (oi := { dst := some 57, op := Go.Op.fieldAddr 80 (Go.Operand.tmp 56) 2, type := 0, pos := "ref.go:66", after := #[{ on := 13, ground := Go.Ground.data }, { on := 0, ground := Go.Ground.phase }, { on := 1, ground := Go.Ground.phase }, { on := 2, ground := Go.Ground.textOnly Go.Departure.lateStores }, { on := 3, ground := Go.Ground.phase }, { on := 4, ground := Go.Ground.phase }, { on := 5, ground := Go.Ground.phase }, { on := 6, ground := Go.Ground.textOnly Go.Departure.lateStores }, { on := 7, ground := Go.Ground.textOnly Go.Departure.lateStores }, { on := 8, ground := Go.Ground.textOnly Go.Departure.lateStores }, { on := 9, ground := Go.Ground.textOnly Go.Departure.lateStores }, { on := 10, ground := Go.Ground.phase }, { on := 11, ground := Go.Ground.phase }, { on := 12, ground := Go.Ground.phase }], guard := none }) (v := ?v_14_1) rfl (by kernel_rfl) (by kernel_rfl) (by kernel_rfl) (fun _ _ _ h => h) (Or.inl ⟨by rfl, ?y_14_1⟩) (by assumption) ?_
          case y_14_1 => (intro wq hSw; (try dsimp only at hSw); go_simp; first | done | with_reducible rfl)
          try simp only [Act.put, List.setIfInBounds_toArray, List.set_cons_zero, List.set_cons_succ]
          refine wpAnyH_ready (rs := [15]) (by kernel_rfl) (by simp) ?_
          refine AllReadyH.cons (o := { dst := none, op := Go.Op.store 58 (Go.Operand.tmp 57) (Go.Operand.tmp 49), type := 0, pos := "ref.go:66", after := #[{ on := 14, ground := Go.Ground.data }, { on := 5, ground := Go.Ground.data }, { on := 12, ground := Go.Ground.chain }, { on := 0, ground := Go.Ground.phase }, { on := 1, ground := Go.Ground.phase }, { on := 2, ground := Go.Ground.textOnly Go.Departure.lateStores }, { on := 3, ground := Go.Ground.phase }, { on := 4, ground := Go.Ground.phase }, { on := 5, ground := Go.Ground.phase }, { on := 6, ground := Go.Ground.textOnly Go.Departure.lateStores }, { on := 7, ground := Go.Ground.textOnly Go.Departure.lateStores }, { on := 8, ground := Go.Ground.textOnly Go.Departure.lateStores }, { on := 9, ground := Go.Ground.textOnly Go.Departure.lateStores }, { on := 10, ground := Go.Ground.phase }, { on := 11, ground := Go.Ground.phase }, { on := 12, ground := Go.Ground.phase }], guard := none }) rfl (fun KQ hKQ => ?_) AllReadyH.nil
          go_simp
          refine hKQ.out _ _ ?s_15 (fun hHeld15 => ?_)
          case s_15 => exact HSK.out.2.1
          clear hKQ KQ
          try simp only [Act.put]
          refine wpAnyH_take (i := 16) (oi := { dst := some 58, op := Go.Op.nilCheck (Go.Operand.tmp 46), type := 0, pos := "ref.go:66", after := #[{ on := 2, ground := Go.Ground.data }, { on := 0, ground := Go.Ground.phase }, { on := 1, ground := Go.Ground.phase }, { on := 2, ground := Go.Ground.phase }, { on := 3, ground := Go.Ground.phase }, { on := 4, ground := Go.Ground.phase }, { on := 5, ground := Go.Ground.phase }, { on := 6, ground := Go.Ground.phase }, { on := 7, ground := Go.Ground.phase }, { on := 8, ground := Go.Ground.textOnly Go.Departure.lateStores }, { on := 9, ground := Go.Ground.textOnly Go.Departure.lateStores }, { on := 10, ground := Go.Ground.phase }, { on := 11, ground := Go.Ground.phase }, { on := 12, ground := Go.Ground.phase }, { on := 13, ground := Go.Ground.phase }, { on := 14, ground := Go.Ground.phase }, { on := 15, ground := Go.Ground.phase }], guard := none }) (v := ?v_16_1) rfl (by kernel_rfl) (by kernel_rfl) (by kernel_rfl) (fun _ _ _ h => h) (Or.inl ⟨by rfl, ?y_16_1⟩) (by assumption) ?_
          case y_16_1 => (intro wq hSw; (try dsimp only at hSw); go_simp; first | done | with_reducible rfl)
          try simp only [Act.put, List.setIfInBounds_toArray, List.set_cons_zero, List.set_cons_succ]
          refine wpAnyH_take (i := 17) (oi := { dst := some 59, op := Go.Op.fieldAddr 80 (Go.Operand.tmp 58) 3, type := 0, pos := "ref.go:66", after := #[{ on := 16, ground := Go.Ground.data }, { on := 0, ground := Go.Ground.phase }, { on := 1, ground := Go.Ground.phase }, { on := 2, ground := Go.Ground.phase }, { on := 3, ground := Go.Ground.phase }, { on := 4, ground := Go.Ground.phase }, { on := 5, ground := Go.Ground.phase }, { on := 6, ground := Go.Ground.phase }, { on := 7, ground := Go.Ground.phase }, { on := 8, ground := Go.Ground.textOnly Go.Departure.lateStores }, { on := 9, ground := Go.Ground.textOnly Go.Departure.lateStores }, { on := 10, ground := Go.Ground.phase }, { on := 11, ground := Go.Ground.phase }, { on := 12, ground := Go.Ground.phase }, { on := 13, ground := Go.Ground.phase }, { on := 14, ground := Go.Ground.phase }, { on := 15, ground := Go.Ground.phase }], guard := none }) (v := ?v_17_1) rfl (by kernel_rfl) (by kernel_rfl) (by kernel_rfl) (fun _ _ _ h => h) (Or.inl ⟨by rfl, ?y_17_1⟩) (by assumption) ?_
          case y_17_1 => (intro wq hSw; (try dsimp only at hSw); go_simp; first | done | with_reducible rfl)
          try simp only [Act.put, List.setIfInBounds_toArray, List.set_cons_zero, List.set_cons_succ]
          refine wpAnyH_ready (rs := [18]) (by kernel_rfl) (by simp) ?_
          refine AllReadyH.cons (o := { dst := none, op := Go.Op.store 44 (Go.Operand.tmp 59) (Go.Operand.tmp 51), type := 0, pos := "ref.go:66", after := #[{ on := 17, ground := Go.Ground.data }, { on := 7, ground := Go.Ground.data }, { on := 15, ground := Go.Ground.chain }, { on := 0, ground := Go.Ground.phase }, { on := 1, ground := Go.Ground.phase }, { on := 2, ground := Go.Ground.phase }, { on := 3, ground := Go.Ground.phase }, { on := 4, ground := Go.Ground.phase }, { on := 5, ground := Go.Ground.phase }, { on := 6, ground := Go.Ground.phase }, { on := 7, ground := Go.Ground.phase }, { on := 8, ground := Go.Ground.textOnly Go.Departure.lateStores }, { on := 9, ground := Go.Ground.textOnly Go.Departure.lateStores }, { on := 10, ground := Go.Ground.phase }, { on := 11, ground := Go.Ground.phase }, { on := 12, ground := Go.Ground.phase }, { on := 13, ground := Go.Ground.phase }, { on := 14, ground := Go.Ground.phase }, { on := 15, ground := Go.Ground.phase }], guard := none }) rfl (fun KQ hKQ => ?_) AllReadyH.nil
          go_simp
          refine hKQ.out _ _ ?s_18 (fun hHeld18 => ?_)
          case s_18 => exact HSK.out.2.2
          clear hKQ KQ
          try simp only [Act.put]
          refine wpAnyH_ready (rs := [19]) (by kernel_rfl) (by simp) ?_
          refine AllReadyH.cons (o := { dst := some 5, op := Go.Op.assign (Go.Operand.tmp 53), type := 4, pos := "ref.go:66", after := #[{ on := 9, ground := Go.Ground.data }, { on := 18, ground := Go.Ground.chain }, { on := 0, ground := Go.Ground.phase }, { on := 1, ground := Go.Ground.phase }, { on := 2, ground := Go.Ground.phase }, { on := 3, ground := Go.Ground.phase }, { on := 4, ground := Go.Ground.phase }, { on := 5, ground := Go.Ground.phase }, { on := 6, ground := Go.Ground.phase }, { on := 7, ground := Go.Ground.phase }, { on := 8, ground := Go.Ground.phase }, { on := 9, ground := Go.Ground.phase }, { on := 10, ground := Go.Ground.phase }, { on := 11, ground := Go.Ground.phase }, { on := 12, ground := Go.Ground.phase }, { on := 13, ground := Go.Ground.phase }, { on := 14, ground := Go.Ground.phase }, { on := 15, ground := Go.Ground.phase }, { on := 16, ground := Go.Ground.phase }, { on := 17, ground := Go.Ground.phase }, { on := 18, ground := Go.Ground.phase }], guard := none }) rfl (fun KQ hKQ => ?_) AllReadyH.nil
          go_simp
          refine hKQ.out _ _ ?s_19 (fun hHeld19 => ?_)
          case s_19 => exact HSK.out.2.2
          clear hKQ KQ
          try simp only [Act.put, List.setIfInBounds_toArray, List.set_cons_zero, List.set_cons_succ]
          refine wpAnyH_done (by kernel_rfl) ?_ _
          go_wp2_with fail
          go_roundw
          case rel => exact ⟨j + 1, _, by omega, by go_num, by rw [HN.out], by rw [HN.out]; exact H4.out.pick HO4.out, ((HB4.out.setCell (Nat.le_refl _) _).setCell (Nat.le_refl _) _).setCell (Nat.le_refl _) _, by first | exact fun _ => HQO.out | exact fun _ => trivial⟩
          case measure => simp [intOf]; omega
        · have HN := Lib.hid (show stageO D (j + 1) = Pk by rw [HS.out, more_no (fun h => hc ⟨by rw [HK.out.1]; exact h.1, by rw [(HK.out.2 (by rw [HK.out.1]; exact h.1)).2.1]; exact h.2⟩)])
          clear HS
          rcases wh with _ | _
          · clear hc
            go_quiet (fail)
            go_wp2_with fail
            go_roundw
            case rel => exact ⟨j + 1, v, by omega, by go_num, by rw [HN.out], by rw [HN.out]; exact H3.out.drewN _, HB3.out.trans (drewN_below _ _ _), by first | exact fun _ => HQO.out | exact fun _ => trivial⟩
            case measure => simp [intOf]; omega
          · have hng : ¬ Pk.X.gen < gg := fun k => hc ⟨rfl, k⟩
            clear hc
            go_quiet (fail)
            go_wp2_with fail
            go_roundw
            case rel => exact ⟨j + 1, v, by omega, by go_num, by rw [HN.out], by rw [HN.out]; exact H3.out.drewN _, HB3.out.trans (drewN_below _ _ _), by first | exact fun _ => HQO.out | exact fun _ => trivial⟩
            case measure => simp [intOf]; omega
      · have hm : D.may j = 6 := by unfold DS.may; rw [if_pos ho]
        have HO := Lib.hid (show openO D = ⟨6, WS.start D.powers, D⟩ by unfold openO; rw [if_pos ho])
        rw [hm] at C1
        have HW := Lib.hid hW
        have HG := Lib.hid (show w.grownBy wr (some g) from ⟨hB.os, hB.tape, hB.output, hB.size, fun k hk _ => hB.block k hk⟩)
        clear hW hoff hm ho
        go_wp2_with fail
        refine C1.out.mono ?_
        rintro e w1 ⟨rfl, rfl⟩
        go_wp2_with fail
        go_ret2
        rw [HO.out]
        exact ⟨.inr ⟨(show (6 : Int) ≠ 0 by decide), rfl, HW.out.ref⟩, HG.out⟩
    · obtain rfl : j = 2 := by omega
      have ho := hoff (by omega)
      have hst : stageO D 2 = pick D := rfl
      rw [hst] at hW ⊢
      have hfit : Fit (pick D).X D := Fit.pick hD
      obtain ⟨Av, cv, rfl, hcv, hcvm, _⟩ := hW.own.slice
      obtain ⟨nv, hnv⟩ : ∃ nv, ((pick D).X.recs.map strV).length = nv := ⟨_, rfl⟩
      rw [hnv] at hW hcv
      have hnv2 : (pick D).X.recs.length = nv := by rwa [List.length_map] at hnv
      have hV : RdV wr wr.heap.size Av nv ((pick D).X.recs.map strV) := by
        obtain ⟨A', c', e, _, _, hR⟩ := hW.own.slice
        rw [hnv] at e hR
        simp only [Value.slice.injEq] at e
        obtain ⟨rfl, -, -⟩ := e
        exact hR
      rcases hsp : (pick D).spoilt with _ | _
      · have HO := Lib.hid (show openO D = ⟨0, (pick D).X, D⟩ by unfold openO; rw [if_neg (by rw [ho]; decide), if_neg (by rw [hsp]; decide)])
        have HW := Lib.hid hW
        have HG := Lib.hid (show w.grownBy wr (some g) from ⟨hB.os, hB.tape, hB.output, hB.size, fun k hk _ => hB.block k hk⟩)
        clear hW hoff ho hV hst hsp hfit
        go_wp2_with fail
        go_ret2
        rw [HO.out]
        exact ⟨.inl ⟨rfl, _, _, rfl, Nat.le_refl _, HW.out⟩, HG.out⟩
      · have HO := Lib.hid (show openO D = rewriteO (pick D).X D (pick D).X.recs by unfold openO; rw [if_neg (by rw [ho]; decide), if_pos hsp])
        have hmany := hfit.many
        have C5 := Lib.hid (rewrite_any w.heap.size g w.heap.size (pick D).X D _ wr hW hD hs hps hfit Av nv cv (pick D).X.recs hV (fun _ b o e => by
          subst e
          refine ⟨fun e2 => hW.vp (by rw [← e2]; rfl), fun e2 => hW.vg (by rw [← e2]; rfl)⟩) (fun r hr => (hfit.recs r hr).1) (by omega))
        rw [← HO.out] at C5
        have HW := Lib.hid hW
        have c3 := hW.c3
        have HV := Lib.hid (show ∀ k, (Value.slice Av nv cv).ownBlock = some k → w.heap.size ≤ k from fun k hk => (hW.own.lt k hk).1)
        clear hW hoff ho hV hst hsp hfit hmany HO
        generalize openO D = oo at *
        go_wp2_with fail
        refine C5.out.mono ?_
        clear C5
        rintro e w5 ⟨v', rfl, hW5, hC5⟩
        have HG := Lib.hid (chg_grown hB hC5 (Nat.le_refl _) HV.out)
        have HW5 := Lib.hid hW5
        clear hW5 hC5 c3
        obtain ⟨x, hx⟩ : ∃ x, oo.e = x := ⟨_, rfl⟩
        have HX := Lib.hid hx
        rw [hx]
        clear hx
        by_cases hx0 : x = 0
        · subst hx0
          go_wp2_with fail
          go_ret2
          exact ⟨.inl ⟨HX.out, _, _, rfl, Nat.le_refl _, HW5.out⟩, HG.out⟩
        · have hne : (x != 0) = true := by simpa using hx0
          have HX0 := Lib.hid hx0
          clear hx0
          go_wp2_with fail
          go_ret2
          exact ⟨.inr ⟨by rw [HX.out]; exact HX0.out, by rw [HX.out]; rfl, HW5.out.ref⟩, HG.out⟩
end Go.Proofs.Ytafdgibkhefplaa.ref5
