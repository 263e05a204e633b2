/- WalGoes answers true: records that are appended and synced are all there. Conditions: what the slices read as. -/
import Derived.Test.YtafdgibkhefplaaBegunW
import Derived.Test.YtafdgibkhefplaaJoin0
import Derived.Test.YtafdgibkhefplaaKitSV
import Derived.Test.YtafdgibkhefplaaTexts
namespace Go.Proofs.Ytafdgibkhefplaa.law5
open Go.RowKit Go.Proofs.Ytafdgibkhefplaa.kit Go.Proofs.Ytafdgibkhefplaa.nums Go.Proofs.Ytafdgibkhefplaa.ds Go.Proofs.Ytafdgibkhefplaa.ws Go.Proofs.Ytafdgibkhefplaa.ref4 Go.Proofs.Ytafdgibkhefplaa.ref5 Go.Proofs.Ytafdgibkhefplaa.law0 Go.Proofs.Ytafdgibkhefplaa.bytes
set_option linter.unusedVariables false

/-- A log that goes on, with the data K, behind at most m steps. -/
structure Goes (X : WS) (D : DS) (K : List (List Int)) (m : Nat) : Prop where
  lies : ∃ M1 M2, Lies X D M1 M2 ∧ M1 ++ M2 = K
  good : D.Good
  steps : D.stepped ≤ m
  powers : D.powers = 0
  gen : X.gen ≤ m + 1
  fit : Fit X D
  file : X.file ≠ -1
  few : K.length ≤ 60
  small : K.flatten.length ≤ 6000
section
variable {X : WS} {D : DS} {K : List (List Int)} {m : Nat}
theorem Goes.len (h : Goes X D K m) : (D.file X.file).length ≤ 6600 := by
  obtain ⟨M1, M2, hL, rfl⟩ := h.lies
  have h1 := h.few
  have h2 := h.small
  rw [hL.s.has, List.length_append, rwB_len, flat_len]
  rw [List.length_append] at h1
  rw [List.flatten_append, List.length_append] at h2
  omega
theorem Goes.recs_ (h : Goes X D K m) : Recs K ∧ X.recs = K ∧ X.over D = false := by
  obtain ⟨M1, M2, hL, rfl⟩ := h.lies
  refine ⟨fun r hr => ?_, hL.recs, by unfold WS.over; rw [hL.done, hL.life]; simp⟩
  rcases List.mem_append.1 hr with hr | hr
  · exact hL.s.okL r hr
  · exact hL.s.okM r hr
theorem Goes.append (h : Goes X D K m) {r : List Int} (hm : m ≤ 900) (hr : Byt r) (h1 : (K ++ [r]).length ≤ 60) (h2 : (K ++ [r]).flatten.length ≤ 6000) : (appendO X D r).e = 0 ∧ Goes (appendO X D r).X (appendO X D r).D (K ++ [r]) (m + 3) := by
  have hlen := h.len
  have hrl : r.length ≤ 6000 := by rw [List.flatten_append, List.length_append] at h2; simp at h2; omega
  obtain ⟨M1, M2, hL, rfl⟩ := h.lies
  have hn := append_near X D r h.good (by have := h.steps; omega) hr
  obtain ⟨e, hL2⟩ := hL.append (r := r) ⟨hr, by omega⟩ (by unfold recR; rw [rec_.recB_length, List.length_cons]; omega)
  have hgen : (appendO X D r).X.gen = X.gen := by
    apply append_ways X D r (P := fun o => o.X.gen = X.gen)
    · exact fun _ => rfl
    · exact fun _ _ => rfl
    · exact fun _ _ => rfl
  refine ⟨e, ⟨M1, M2 ++ [r], hL2, by rw [List.append_assoc]⟩, hn.1, by have := h.steps; omega, hn.2.2.trans h.powers, by have := h.gen; omega, h.fit.append hr h.file, keeps_file_append h.file, h1, h2⟩
theorem Goes.rewrite (h : Goes X D K m) (hm : m ≤ 900) : (rewriteO X D K).e = 0 ∧ Goes (rewriteO X D K).X (rewriteO X D K).D K (m + 3) := by
  have hK := h.recs_.1
  obtain ⟨M1, M2, hL, hM⟩ := h.lies
  have hY : ∀ r ∈ K, Byt r := fun r hr => (hK r hr).1
  have hn := rewrite_near X D K h.good (by have := h.steps; omega) hY
  have h1 := h.few
  have h2 := h.small
  have hg := h.gen
  obtain ⟨e, hL2, g2, _⟩ := hL.rewrite hK (by rw [rwB_len]; omega) (by omega)
  exact ⟨e, ⟨K, [], hL2, List.append_nil _⟩, hn.1, by have := h.steps; omega, hn.2.2.trans h.powers, by omega, h.fit.rewrite hY, keeps_file_rewrite h.file, h1, h2⟩
theorem Goes.sync (h : Goes X D K m) (hm : m ≤ 900) : (syncO X D).e = 0 ∧ Goes (syncO X D).X (syncO X D).D K (m + 3) ∧ (syncO X D).X = X ∧ (syncO X D).D.lasts X.file = ((syncO X D).D.file X.file).length := by
  obtain ⟨M1, M2, hL, hM⟩ := h.lies
  have hn := sync_near X D h.good (by have := h.steps; omega)
  obtain ⟨e, hL2, hX, hl⟩ := hL.sync
  have hg := h.gen
  exact ⟨e, ⟨⟨M1, M2, hL2, hM⟩, hn.1, by have := h.steps; omega, hn.2.2.trans h.powers, by rw [hX]; omega, h.fit.sync, keeps_file_sync h.file, h.few, h.small⟩, hX, hl⟩
/-- The power fails behind a sync, and it is opened. -/
theorem Goes.again (h : Goes X D K m) (hm : m ≤ 900) (hs : D.lasts X.file = (D.file X.file).length) : (D.powS []).Good ∧ (openO (D.powS [])).e = 0 ∧ (openO (D.powS [])).D = D.powS [] ∧ (openO (D.powS [])).X.recs = K ∧ (openO (D.powS [])).X.over (D.powS []) = false ∧ X.over (D.powS []) = true ∧ Fit (openO (D.powS [])).X (D.powS []) ∧ (openO (D.powS [])).X.file ≠ -1 ∧ (D.powS []).stepped ≤ m + 1 ∧ (D.powS []).powers ≤ 1 := by
  obtain ⟨M1, M2, hL, rfl⟩ := h.lies
  have hp := h.powers
  have hst := h.steps
  have hG := h.good.pow (by omega) []
  have hN : (D.powS []).stepped ≤ D.stepped + 1 ∧ (D.powS []).powers ≤ D.powers + 1 := DS.Near.pow D []
  have hS := hL.s.pow hs []
  have hO := hS.open_
  have hF := Fit.open_ hG
  have hX : (openO (D.powS [])).e = 0 := by rw [hO]
  refine ⟨hG, hX, by rw [hO], by rw [hO], by rw [hO]; unfold WS.over; simp, ?_, by rw [show (openO (D.powS [])).D = D.powS [] by rw [hO]] at hF; exact hF, open_file hX, by omega, by omega⟩
  unfold WS.over
  have h1 : (D.powS []).powers = D.powers + 1 := rfl
  have h2 := hL.life
  rw [hL.done, h1]
  simp
  omega
end
theorem first_rows {w : World} {B n : Nat} {A : Option Addr} {L : List (List Int)} (h : RdS w B A n L) {q : Nat} (hq : q ≤ n) : RdS w B A q (L.take q) := by
  obtain ⟨xs, hV, hl, hS⟩ := h
  have hx := hV.1
  refine ⟨xs.take q, ⟨by rw [List.length_take]; omega, fun hp => ?_⟩, by rw [List.length_take]; omega, fun j x l hx hl2 => ?_⟩
  · obtain ⟨b, o, e, hb, hc⟩ := hV.2 (by omega)
    exact ⟨b, o, e, hb, fun j hj => by rw [hc j (by omega), List.getElem?_take, if_pos hj]⟩
  · rw [List.getElem?_take] at hx hl2
    by_cases hj : j < q
    · rw [if_pos hj] at hx hl2; exact hS j x l hx hl2
    · rw [if_neg hj] at hx; cases hx
theorem rows_flat_take (L : List (List Int)) (j : Nat) : (L.take j).flatten.length ≤ L.flatten.length := by
  conv => rhs; rw [← List.take_append_drop j L]
  rw [List.flatten_append, List.length_append]
  omega
theorem goes_begun : bO1.e = 0 ∧ Goes bO1.X bO1.D [] 3 := by
  have hn : bO1.D.Good ∧ bO1.D.stepped ≤ 3 ∧ bO1.D.powers = 0 := open_near DS.fresh DS.Good.fresh (show (0 : Nat) ≤ 999000 by omega)
  have he : bO1.e = 0 := begW_S.1.1
  have hg : bO1.X.gen = 1 := by kernel_rfl
  refine ⟨he, ⟨[], [], ⟨⟨⟨by kernel_rfl, by kernel_rfl⟩, .inl (by kernel_rfl), by omega, by omega, fun r hr => (by cases hr), fun r hr => (by cases hr), by kernel_rfl, fun n => ?_⟩, by kernel_rfl, by kernel_rfl, by kernel_rfl⟩, rfl⟩, hn.1, hn.2.1, hn.2.2, by omega, Fit.open_ DS.Good.fresh, open_file he, by simp, by simp⟩
  have e : bO1.D.file (oth bO1.X.file) = [] := by kernel_rfl
  rw [e, List.take_nil, look_nil, hg]
  decide

set_option maxRecDepth 100000 in
set_option maxHeartbeats 1000000 in
theorem goes_walk (A : Option Addr) (n c : Nat) (L : List (List Int)) (A2 : Option Addr) (n2 c2 : Nat) (zs : List Bool) (w : World) (hR : RdS w w.heap.size A n L) (hY : ∀ l ∈ L, Byt l) (hnc : n ≤ c) (hcm : c ≤ maxLen) (hZ : RdV w w.heap.size A2 n2 (zs.map Value.bool)) (hT : True) (hnc2 : n2 ≤ c2) (hcm2 : c2 ≤ maxLen) :
    Calls Try.prog 5 #[.slice A n c, .slice A2 n2 c2] w fun e w' => e = .returned (.bool true) ∧ Below w.heap.size w w' := by
  have hx1 := hcm
  unfold maxLen at hx1
  have HL := Lib.hid hR.len
  go_enter Try.func5, Try.ntmps5
  go_wp2_with fail
  refine (begun_any w).mono ?_
  rintro e w1 ⟨rfl, hB1⟩
  have hR1 := hR.below hB1
  have HZ := Lib.hid hZ
  have HR := Lib.hid hR
  clear hR hZ
  have zt : (true == true) = true := rfl
  have hend : ∀ b : Bool, True := fun _ => trivial
  clear zt hend
  by_cases hn : n ≤ 60
  case neg =>
    have hq : decide ((60 : Int) < (n : Int)) = true := decide_eq_true (by omega)
    go_wp2_with fail
    go_ret
    exact ⟨rfl, hB1⟩
  by_cases hn2 : n2 ≤ 60
  case neg =>
    go_wp2_with fail
    go_ret
    exact ⟨rfl, hB1⟩
  have C1 := Lib.hid (sum_any A n c L 6000 w1 _ hR1 (by omega) (by omega))
  go_wp2_with fail
  refine C1.out.mono ?_
  clear C1
  rintro e w1' ⟨r, rfl, hr, rfl⟩
  by_cases hr6 : r ≤ 6000
  case neg =>
    go_wp2_with fail
    go_ret
    exact ⟨rfl, hB1⟩
  have hfl := hr hr6
  go_wp2_with fail
  refine (disk.new_any w1).mono ?_
  rintro e w2 ⟨a, fd1, rfl, hd1, hf1, hB2⟩
  have hs1 := hB1.size
  have C1 := Lib.hid (show Calls Try.prog 16 #[.pointer (some ⟨a, 0, none⟩)] w2 (wal.RetOp w2 a fd1 bO1) from wal.open_any a DS.fresh fd1 w2 hd1 DS.Good.fresh (show (0 : Nat) ≤ 999000 by omega) (show (0 : Nat) ≤ 1000000 by omega))
  have hB12 := hB1.trans (hB2.mono hs1)
  go_wp2_with fail
  refine C1.out.mono ?_
  clear C1
  obtain ⟨E1, G1⟩ := goes_begun
  rintro e w3 (⟨_, p, fw2, fd2, A3, n3, c3, rfl, hL2, hfw2, hC2, _⟩ | ⟨he, _⟩)
  case inr => exact absurd E1 he
  have hs2 := hB2.size
  have hB3 := hB12.trans (below_chg hC2 (fun k hk => Nat.le_trans hs1 (hf1 k hk)) hB12.size)
  have hf2 : ∀ k, fw2 k ∨ fd2 k → w.heap.size ≤ k := fun k hk => by
    rcases hC2.new k hk with h | h
    · have := hf1 k h; omega
    · omega
  have HI0 : Hid (∃ X D fw fd, wal.Log w3 p a X D fw fd ∧ Goes X D (L.take 0) (3 + 6 * 0) ∧ (∀ k, fw k ∨ fd k → w.heap.size ≤ k) ∧ Below w.heap.size w w3) := ⟨bO1.X, bO1.D, fw2, fd2, hL2, by rw [List.take_zero]; exact G1, hf2, hB3⟩
  clear hL2 hfw2 hC2 hB3 hf2 hB12 hB2 hd1 hf1 hR1 hr hB1 hs1 hs2 G1 E1
  go_wp2_with fail
  go_loopw [9] (fun i wr => ∃ (j : Nat), j ≤ n ∧ i = .int .i64 j ∧ Hid (∃ X D fw fd, wal.Log wr p a X D fw fd ∧ Goes X D (L.take j) (3 + 6 * j) ∧ (∀ k, fw k ∨ fd k → w.heap.size ≤ k) ∧ Below w.heap.size w wr)) (fun i _ => n - (intOf i).toNat)
  case atStart => exact ⟨0, by omega, rfl, HI0⟩
  case round =>
    obtain ⟨j, hj, rfl, HI⟩ := hrel
    clear HI0
    obtain ⟨X, D, fw, fd, hLg, hGo, hfr, hBw⟩ := HI.out
    have hst := hGo.steps
    have hpw := hGo.powers
    by_cases hlt : j < n
    · have hRw := HR.out.below hBw
      obtain ⟨b, o, Aj, cj, l, rfl, hl, hcl, hj1, hj2, hRj⟩ := hRw.at_ hlt
      have hsz := hBw.size
      have htk : L.take (j + 1) = L.take j ++ [l] := by rw [List.take_add_one, hl]; rfl
      have hfew : (L.take (j + 1)).length ≤ 60 := by rw [List.length_take]; omega
      have hsm : (L.take (j + 1)).flatten.length ≤ 6000 := by have := rows_flat_take L (j + 1); omega
      have hYl := hY l (List.mem_of_getElem? hl)
      rw [htk] at hfew hsm
      obtain ⟨e1, G1⟩ := hGo.append (by omega) hYl hfew hsm
      rw [← htk] at G1
      have hll : l.length ≤ 6000 := by rw [List.flatten_append, List.length_append] at hsm; simp at hsm; omega
      have C1 := Lib.hid (wal.append_any p a X D fw fd wr hLg hGo.good (by omega) (by omega) hGo.fit hGo.file Aj l.length cj l (fun W h1 h2 => (hRj.keep (fun b o hb => World.cell?_of_block (a := ⟨b, o, none⟩) (h2 b (by omega) (fun hf => by have := hfr b hf; omega)))).more (by omega)) hYl (by omega) hj1 hj2)
      have HG := Lib.hid G1
      have HF := Lib.hid (And.intro hfr hBw)
      clear hLg hGo hfr hRj HI G1 hl hfew hsm hYl
      go_wp2_with fail
      refine C1.out.mono ?_
      clear C1
      rintro e y1 ⟨fw1, fd1, he, hL1, hC1, hn1, hm1⟩
      rw [e1] at he
      subst he
      have hB1y := HF.out.2.trans (below_chg hC1 HF.out.1 hsz)
      have hf1 : ∀ k, fw1 k ∨ fd1 k → w.heap.size ≤ k := from_ret (fun k hk => hC1.new k hk) HF.out.1 hsz
      have hst1 := HG.out.steps
      have hpw1 := HG.out.powers
      have hsz1 := hB1y.size
      have hRy := HR.out.below hB1y
      have HN : Hid (∃ X D fw fd, wal.Log y1 p a X D fw fd ∧ Goes X D (L.take (j + 1)) (3 + 6 * j + 3) ∧ (∀ k, fw k ∨ fd k → w.heap.size ≤ k) ∧ Below w.heap.size w y1) := ⟨_, _, fw1, fd1, hL1, HG.out, hf1, hB1y⟩
      have HM := Lib.hid (fun (z : World) (X : WS) (D : DS) (fw fd : Nat → Prop) (h1 : wal.Log z p a X D fw fd) (h2 : Goes X D (L.take (j + 1)) (3 + 6 * j + 3 + 3)) (h3 : ∀ k, fw k ∨ fd k → w.heap.size ≤ k) (h4 : Below w.heap.size w z) => (show Hid (∃ X D fw fd, wal.Log z p a X D fw fd ∧ Goes X D (L.take (j + 1)) (3 + 6 * (j + 1)) ∧ (∀ k, fw k ∨ fd k → w.heap.size ≤ k) ∧ Below w.heap.size w z) from ⟨X, D, fw, fd, h1, (show 3 + 6 * (j + 1) = 3 + 6 * j + 3 + 3 by omega) ▸ h2, h3, h4⟩))
      have HN2 : Hid (∃ X D fw fd, wal.Log y1 p a X D fw fd ∧ Goes X D (L.take (j + 1)) (3 + 6 * (j + 1)) ∧ (∀ k, fw k ∨ fd k → w.heap.size ≤ k) ∧ Below w.heap.size w y1) := HM.out y1 _ _ fw1 fd1 hL1 ⟨HG.out.lies, HG.out.good, by omega, HG.out.powers, by have := HG.out.gen; omega, HG.out.fit, HG.out.file, HG.out.few, HG.out.small⟩ hf1 hB1y
      clear hRw hcl hC1 hn1 hm1
      by_cases h2 : j < n2
      · obtain ⟨b2, o2, u, rfl, hu, hcu⟩ := (HZ.out.below hB1y).at_ h2
        rw [List.getElem?_map] at hu
        obtain ⟨z, hz, rfl⟩ := Option.map_eq_some_iff.1 hu
        clear hu hz
        cases z with
        | false =>
          clear hL1 hf1 hB1y HN
          go_wp2_with fail
          go_roundw
          case rel => exact ⟨j + 1, by omega, by go_num, HN2⟩
          case measure => simp [intOf]; omega
        | true =>
          have hRt := first_rows hRy (q := j + 1) (by omega)
          have hflt := rows_flat_take L (j + 1)
          obtain ⟨e2, G2⟩ := HG.out.rewrite (by omega)
          have C2 := Lib.hid (wal.rewrite_any p a (appendO X D l).X (appendO X D l).D fw1 fd1 y1 hL1 HG.out.good (by omega) (by omega) HG.out.fit HG.out.file (some ⟨b, o, none⟩) (j + 1) c (L.take (j + 1)) (fun W h1 h2 => by
            obtain ⟨xs, hV, hlen, hS⟩ := hRt
            have hk : ∀ b o, b < w.heap.size → W.cell? ⟨b, o, none⟩ = y1.cell? ⟨b, o, none⟩ := fun b o hb => World.cell?_of_block (a := ⟨b, o, none⟩) (h2 b (by omega) (fun hf => by have := hf1 b hf; omega))
            exact ⟨xs, (hV.keep hk).more (by omega), hlen, fun i y l hy hl => by
              obtain ⟨A, c, e, h3, h4, hR⟩ := hS i y l hy hl
              exact ⟨A, c, e, h3, h4, (hR.keep hk).more (by omega)⟩⟩) (fun r hr => (HG.out.recs_.1 r hr).1) (by omega) hcm (by omega))
          have HG2 := Lib.hid G2
          have HF2 := Lib.hid (And.intro hf1 hB1y)
          clear hRt hL1 hf1 hB1y HN HN2 G2 hRy
          go_wp2_with fail
          refine C2.out.mono ?_
          clear C2
          rintro e y2 ⟨fw2, fd2, he, hL2, hC2, hn2, hm2⟩
          rw [e2] at he
          subst he
          have HN3 := HM.out y2 _ _ fw2 fd2 hL2 HG2.out (from_ret (fun k hk => hC2.new k hk) HF2.out.1 hsz1) (HF2.out.2.trans (below_chg hC2 HF2.out.1 hsz1))
          clear hL2 hC2 hn2 hm2
          go_wp2_with fail
          go_roundw
          case rel => exact ⟨j + 1, by omega, by go_num, HN3⟩
          case measure => simp [intOf]; omega
      · clear hL1 hf1 hB1y HN
        go_wp2_with fail
        go_roundw
        case rel => exact ⟨j + 1, by omega, by go_num, HN2⟩
        case measure => simp [intOf]; omega
    · obtain rfl : j = n := by omega
      have hLj : L.take j = L := by rw [List.take_of_length_le]; have := HL.out; omega
      rw [hLj] at hGo
      obtain ⟨e1, G1, hX1, hs1⟩ := hGo.sync (by omega)
      have hsz := hBw.size
      have C1 := Lib.hid (wal.sync_any p a X D fw fd wr hLg hGo.good (by omega) (by omega) hGo.fit hGo.file)
      have HG := Lib.hid G1
      have HF := Lib.hid (And.intro hfr hBw)
      clear hLg hGo hfr HI G1
      go_wp2_with fail
      refine C1.out.mono ?_
      clear C1
      rintro e y1 ⟨fw1, fd1, he, hL1, hC1, hn1, hm1⟩
      rw [e1] at he
      subst he
      rw [hX1] at hL1 HG
      have hB1y := HF.out.2.trans (below_chg hC1 HF.out.1 hsz)
      have hf1 : ∀ k, fw1 k ∨ fd1 k → w.heap.size ≤ k := from_ret (fun k hk => hC1.new k hk) HF.out.1 hsz
      have hst1 := HG.out.steps
      have hpw1 := HG.out.powers
      obtain ⟨r1, r2, r3⟩ := HG.out.recs_
      have C2 := Lib.hid (wal.count_any p a X (syncO X D).D fw1 fd1 y1 hL1 HG.out.good (by omega) (by omega) HG.out.fit HG.out.file)
      rw [r3, r2, HL.out] at C2
      simp only [Bool.false_eq_true, if_false] at C2
      clear hC1 hn1 hm1
      go_wp2_with fail
      refine C2.out.mono ?_
      clear C2
      rintro e y2 ⟨rfl, q2, rfl⟩
      have hL2 : wal.Log (y1.drewN q2) p a X (syncO X D).D fw1 fd1 := ⟨hL1.wal.keep (fun _ _ => rfl), hL1.disk.keep (fun _ _ => rfl), hL1.apart⟩
      have hB2 : Below w.heap.size w (y1.drewN q2) := below_drewN hB1y q2
      clear hL1 hB1y
      have hGG := HG.out
      generalize (syncO X D).D = D1 at *
      generalize y1.drewN q2 = y2 at *
      obtain ⟨g1, g2, g3, g4, g5, g6, g7, g8, g9, g10⟩ := hGG.again (by omega) hs1
      have C3 := Lib.hid (disk.power_any a D1 fd1 y2 hL2.disk hGG.good (by omega) (by omega) none 0 0 [] (RdV.nil _ _ _) (fun z hz => by cases hz) (fun h => absurd h (by omega)) (by omega))
      have HL2 := Lib.hid hL2
      have HB2 := Lib.hid hB2
      have HX := Lib.hid (And.intro hGG.fit hGG.file)
      clear hL2 hB2 hGG HG
      generalize D1.powS [] = D4 at *
      go_wp2_with fail
      refine C3.out.mono ?_
      clear C3
      rintro e y5 ⟨fd5, rfl, hd5, hC5⟩
      have hs4 := HB2.out.size
      have hB5 := HB2.out.trans (below_chg hC5 (fun k hk => hf1 k (.inr hk)) hs4)
      have hw5 : wal.IsWal y5 p a X fw1 := HL2.out.wal.keep (fun k hk => hC5.block k (HL2.out.wal.lt k hk) (HL2.out.apart k hk))
      have hx5 : ∀ k, fw1 k → ¬ fd5 k := fun k hk h5 => by
        have := HL2.out.wal.lt k hk
        rcases hC5.new k h5 with h | h
        · exact HL2.out.apart k hk h
        · omega
      have hf5 : ∀ k, fd5 k → w.heap.size ≤ k := from_ret hC5.new (fun k hk => hf1 k (.inr hk)) hs4
      have C5 := Lib.hid (wal.open_any a D4 fd5 y5 hd5 g1 (by omega) (by omega))
      have HX5 := Lib.hid (And.intro hB5 (And.intro hw5 (And.intro hx5 hf5)))
      clear hd5 hC5 HL2 hs4 hB5 hw5 hx5 hf5
      go_wp2_with fail
      refine C5.out.mono ?_
      clear C5
      rintro e y6 (⟨_, p2, fw6, fd6, A6, n6, c6, rfl, hL6, hfw6, hC6, hSafe⟩ | ⟨he, _⟩)
      case inr => exact absurd g2 he
      have hR6 := hSafe y6 (Nat.le_refl _) (fun _ _ _ => rfl)
      rw [g4] at hR6
      obtain rfl : j = n6 := HL.out.symm.trans hR6.len
      rw [g3] at hL6
      generalize (openO D4).X = X6 at *
      have hB6 := HX5.out.1.trans (below_chg hC6 HX5.out.2.2.2 HX5.out.1.size)
      have hL7 : wal.Log y6 p a X D4 fw1 fd6 := ⟨HX5.out.2.1.keep (fun k hk => hC6.block k (HX5.out.2.1.lt k hk) (HX5.out.2.2.1 k hk)), hL6.disk, fun k h1 h2 => by
        have := HX5.out.2.1.lt k h1
        rcases hC6.new k (.inr h2) with h | h
        · exact HX5.out.2.2.1 k h1 h
        · omega⟩
      have hR7 := HR.out.below hB6
      have CT := Lib.hid (texts_any A j c L y6 (hR7.more hB6.size) (by omega))
      have CL := Lib.hid (fun (z : World) (hz : Below y6.heap.size y6 z) (S : Option Addr) (cs : Nat) (hS : RdV z z.heap.size S j (L.map strV)) => alike_any A6 j c6 L S cs z _ _ (hR6.below hz) hS (by omega))
      have CV := Lib.hid (fun (z : World) (hz : Below y6.heap.size y6 z) => wal.count_any p2 a X6 D4 fw6 fd6 z ⟨hL6.wal.keep (fun k hk => hz.block k (hL6.wal.lt k hk)), hL6.disk.keep (fun k hk => hz.block k (hL6.disk.lt k hk)), hL6.apart⟩ g1 (by omega) (by omega) g7 g8)
      have CW := Lib.hid (fun (z : World) (hz : Below y6.heap.size y6 z) => wal.count_any p a X D4 fw1 fd6 z ⟨hL7.wal.keep (fun k hk => hz.block k (hL7.wal.lt k hk)), hL7.disk.keep (fun k hk => hz.block k (hL7.disk.lt k hk)), hL7.apart⟩ g1 (by omega) (by omega) (fit_over HX.out.1 g6) HX.out.2)
      have CB := Lib.hid (fun (z : World) (hz : Below y6.heap.size y6 z) => wal.bytes_any p a X D4 fw1 fd6 z ⟨hL7.wal.keep (fun k hk => hz.block k (hL7.wal.lt k hk)), hL7.disk.keep (fun k hk => hz.block k (hL7.disk.lt k hk)), hL7.apart⟩ g1 (by omega) (by omega) (fit_over HX.out.1 g6) HX.out.2)
      rw [g5, g4, HL.out] at CV
      rw [g6] at CW CB
      simp only [Bool.false_eq_true, if_false, if_true] at CV CW CB
      have HB6 := Lib.hid hB6
      clear hL6 hfw6 hC6 hSafe hR6 hB6 hL7 hR7 HX5 HB2
      go_wp2_with fail
      refine CT.out.mono ?_
      clear CT
      rintro e y7 ⟨S, cs, rfl, hOt, hBt⟩
      have CL2 := Lib.hid (CL.out y7 hBt S cs (by
        obtain ⟨S', c', e, _, _, hV⟩ := hOt.slice
        rw [List.length_map, HL.out] at e hV
        simp only [Value.slice.injEq] at e
        obtain ⟨rfl, -, rfl⟩ := e
        exact hV))
      have HBt := Lib.hid hBt
      clear CL hOt hBt
      go_wp2_with fail
      refine CL2.out.mono ?_
      clear CL2
      rintro e y8 ⟨rfl, q8, rfl⟩
      have CV2 := Lib.hid (CV.out (y7.drewN q8) (below_drewN HBt.out q8))
      have CW2 := Lib.hid (fun k => CW.out (y7.drewN k) (below_drewN HBt.out k))
      have CB2 := Lib.hid (fun k => CB.out (y7.drewN k) (below_drewN HBt.out k))
      have HE := Lib.hid (fun k => HB6.out.trans ((below_drewN HBt.out k).mono HB6.out.size))
      clear CV CW CB HBt HB6
      go_wp2_with fail
      refine CV2.out.mono ?_
      rintro e y9 ⟨rfl, q9, rfl⟩
      rw [World.drewN_drewN]
      go_wp2_with fail
      refine (CW2.out _).mono ?_
      rintro e y10 ⟨rfl, q10, rfl⟩
      rw [World.drewN_drewN]
      go_wp2_with fail
      refine (CB2.out _).mono ?_
      rintro e y11 ⟨rfl, q11, rfl⟩
      rw [World.drewN_drewN]
      go_wp2_with fail
      go_ret
      exact ⟨rfl, HE.out _⟩
end Go.Proofs.Ytafdgibkhefplaa.law5
