/- WalLast's walk: it answers true of every input, and writes nothing that was there. No condition but those of the frame. -/
import Derived.Test.YtafdgibkhefplaaBegunW
import Derived.Test.YtafdgibkhefplaaWhole
import Derived.Test.YtafdgibkhefplaaJoin1
import Derived.Test.YtafdgibkhefplaaTexts
namespace Go.Proofs.Ytafdgibkhefplaa.law5
open Go.RowKit Go.Proofs.Ytafdgibkhefplaa.kit Go.Proofs.Ytafdgibkhefplaa.nums Go.Proofs.Ytafdgibkhefplaa.ds Go.Proofs.Ytafdgibkhefplaa.ws Go.Proofs.Ytafdgibkhefplaa.ref5 Go.Proofs.Ytafdgibkhefplaa.law0 Go.Proofs.Ytafdgibkhefplaa.bytes Go.Proofs.Ytafdgibkhefplaa.rec_
set_option linter.unusedVariables false

/-- What lies below block B of the first world is read whatever becomes of the log and its disk, which lie from B on. -/
theorem safe_rows {w0 w : World} {fw fd : Nat → Prop} {A : Option Addr} {n : Nat} {L : List (List Int)} (hR : RdS w0 w0.heap.size A n L) (hB : Below w0.heap.size w0 w) (hf : ∀ k, fw k ∨ fd k → w0.heap.size ≤ k) : wal.Safe w (wal.Or2 fw fd) (fun W => RdS W W.heap.size A n L) := fun W h1 h2 => by
  obtain ⟨xs, hV, hlen, hS⟩ := hR
  have hs := hB.size
  have hk : ∀ b o, b < w0.heap.size → W.cell? ⟨b, o, none⟩ = w0.cell? ⟨b, o, none⟩ := fun b o hb => World.cell?_of_block (a := ⟨b, o, none⟩) ((h2 b (by omega) (fun h => by have := hf b h; omega)).trans (hB.block b hb))
  exact ⟨xs, (hV.keep hk).more (by omega), hlen, fun i y l hy hl => by
    obtain ⟨A, c, e, h3, h4, hR⟩ := hS i y l hy hl
    exact ⟨A, c, e, h3, h4, (hR.keep hk).more (by omega)⟩⟩
theorem safe_rd {w0 w : World} {fw fd : Nat → Prop} {A : Option Addr} {n : Nat} {l : List Int} (hR : Rd w0 w0.heap.size A n l) (hB : Below w0.heap.size w0 w) (hf : ∀ k, fw k ∨ fd k → w0.heap.size ≤ k) : wal.Safe w (wal.Or2 fw fd) (fun W => Rd W W.heap.size A n l) := fun W h1 h2 => by
  have hs := hB.size
  exact (hR.keep (fun b o hb => World.cell?_of_block (a := ⟨b, o, none⟩) ((h2 b (by omega) (fun h => by have := hf b h; omega)).trans (hB.block b hb)))).more (by omega)
theorem at_file {X : WS} {D : DS} {R : List (List Int)} (h : At X D R) : X.file ≠ -1 := by rcases h.file with e | e <;> rw [e] <;> decide

set_option maxRecDepth 100000 in
set_option maxHeartbeats 4000000 in
theorem last_walk (b : Int) (A : Option Addr) (n c : Nat) (L : List (List Int)) (tl : Bool) (w : World) (hb0 : (Lit.int .u8 b).wf = true) (hR : RdS w w.heap.size A n L) (hY : ∀ l ∈ L, Byt l) (hnc : n ≤ c) (hcm : c ≤ maxLen) :
    Calls Try.prog 8 #[.int .u8 b, .slice A n c, .bool tl] w fun e w' => e = .returned (.bool true) ∧ Below w.heap.size w w' := by
  have hb : 0 ≤ b ∧ b ≤ 255 := by simpa [Lit.wf, IntKind.min, IntKind.max, IntKind.signed, IntKind.bits] using hb0
  clear hb0
  have hx1 := hcm
  unfold maxLen at hx1
  have HL := Lib.hid hR.len
  go_enter Try.func8, Try.ntmps8
  go_wp2_with fail
  refine (begun_any w).mono ?_
  rintro e w1 ⟨rfl, hB1⟩
  have hR1 := hR.below hB1
  have HR := Lib.hid hR
  clear hR
  by_cases hn : n ≤ 5
  case neg =>
    go_wp2_with fail
    go_ret
    exact ⟨rfl, hB1⟩
  have C := Lib.hid (sum_any A n c L 1000 w1 _ hR1 (by omega) (by omega))
  go_wp2_with fail
  refine C.out.mono ?_
  clear C
  rintro e w1' ⟨r, rfl, hr, rfl⟩
  by_cases hr6 : r ≤ 1000
  case neg =>
    go_wp2_with fail
    go_ret
    exact ⟨rfl, hB1⟩
  have hfl := hr hr6
  clear hr
  obtain ⟨k, hk, hk2⟩ : ∃ k : Nat, b.tmod 3 = (k : Int) ∧ k ≤ 2 := by
    have h0 : 0 ≤ b := hb.1
    refine ⟨(b.tmod 3).toNat, ?_, ?_⟩
    · have := Int.tmod_nonneg 3 h0; omega
    · have := Int.tmod_lt_of_pos b (show (0 : Int) < 3 by omega); omega
  have hw1 : IntKind.u64.wrap (k : Int) = k := IntWalk.u64_in _ ⟨by omega, by omega⟩
  have hw2 : IntKind.u64.wrap (4611686018427387903 - (k : Int)) = 4611686018427387903 - k := IntWalk.u64_in _ ⟨by omega, by omega⟩
  have HBb := Lib.hid hb
  clear hb
  go_upto_if 29 with (fail)
  go_cut [8] from 9 (fun s wx => ∃ T m ct t, s = .slice T m ct ∧ Hid (Rd wx wx.heap.size T m t) ∧ Hid ((tl = true ∧ t = [1, 2, 3]) ∨ (tl = false ∧ t = [])) ∧ Below w.heap.size w wx)
  case first =>
    cases tl with
    | true =>
      go_wp2_with fail
      go_meet
      case rel => exact ⟨_, _, _, [1, 2, 3], rfl, (rd_lit w1 5 [1, 2, 3] 3 (0, 0) rfl).more (by simp), .inl ⟨by first | rfl | trivial, rfl⟩, hB1.alloc hB1.size _⟩
    | false =>
      go_wp2_with fail
      go_meet
      case rel => exact ⟨_, _, _, [], rfl, Rd.nil _ _ _, .inr ⟨by first | rfl | trivial, rfl⟩, hB1⟩
  case rest =>
    obtain ⟨T, m, ct, t, rfl, hT, htl, hB⟩ := hcut
    have ht3 : Byt t ∧ nextE t 0 ≠ 0 ∧ t.length ≤ 3 := by
      rcases htl.out with ⟨_, rfl⟩ | ⟨_, rfl⟩
      · exact ⟨fun x hx => by simp at hx; omega, by decide, by decide⟩
      · exact ⟨Byt.nil, by decide, by decide⟩
    obtain ⟨tY, tN, tL⟩ := ht3
    have hml := hT.out.len
    obtain ⟨G, hG⟩ : ∃ G : Int, 4611686018427387903 - (k : Int) = G := ⟨_, rfl⟩
    rw [hG] at hw2 ⊢
    have g1 : 1 ≤ G := by omega
    have g2 : G < 4611686018427387904 := by omega
    have hOK : Recs L := fun r hr => ⟨hY r hr, by
      obtain ⟨a, b, e⟩ := List.append_of_mem hr
      rw [e, List.flatten_append, List.flatten_cons, List.length_append, List.length_append] at hfl
      omega⟩
    have hBn : (rwB G L).length ≤ 1100 := by rw [rwB_len, HL.out]; omega
    have hBY : Byt (rwB G L ++ t) := (rwB_byt hY).append tY
    obtain ⟨q1, q2, q3, q4, q5⟩ := hand_one hBY (by rw [List.length_append]; omega)
    obtain ⟨q6, q7⟩ := hand_open q2 (f := 0) (t := t) (.inl rfl) g1 g2 hOK (by omega) q3 (pick_one g1 g2 hOK tY tN q3 q4)
    clear hR1 hB1
    go_wp2_with fail
    refine (disk.new_any wc).mono ?_
    rintro e w2 ⟨a, fp, rfl, hd2, hf2, hB2⟩
    have hB02 := hB.trans (hB2.mono hB.size)
    have C := Lib.hid (whole_any G A n c L T m ct t w2 ((HR.out.below hB02).more hB02.size) (hT.out.on hB2 hB2.size) hY (by omega) (by omega) (by omega) (by omega) (by omega))
    have hf2' : ∀ k, fp k → w.heap.size ≤ k := fun k hk => Nat.le_trans hB.size (hf2 k hk)
    clear hf2
    go_wp2_with fail
    refine C.out.mono ?_
    clear C
    rintro e w3 ⟨A3, n3, c3, rfl, hl3, hO3, hB3⟩
    have hc3 := hO3.caps hl3
    have hd3 := hd2.keep (fun k hk => hB3.block k (hd2.lt k hk))
    have C := Lib.hid (disk.append_any a DS.fresh fp w3 hd3 DS.Good.fresh (show (0 : Nat) ≤ 1000000 by omega) (show (0 : Nat) ≤ 1000000 by omega) 0 A3 n3 c3 (rwB G L ++ t) (hO3.rd hl3) hBY (by rw [← hl3, List.length_append]; omega) hc3.1 hc3.2 (fun h0 b o e hk => by
      obtain ⟨g, hg, hge⟩ := hO3.form h0
      have := hd2.lt b hk
      cases hg.symm.trans e
      omega))
    rw [q1] at C
    have HB3 := Lib.hid (hB02.trans (hB3.mono hB02.size))
    generalize DS.fresh.appS 0 (rwB G L ++ t) = D1 at *
    clear hO3 hd3 hd2 hB3 hB2 hB02 hB
    go_wp2_with fail
    refine C.out.mono ?_
    clear C
    rintro e w4 ⟨fd4, rfl, hd4, hC4⟩
    have hf4 : ∀ k, fd4 k → w.heap.size ≤ k := from_ret hC4.new hf2' HB3.out.size
    have HB4 := Lib.hid (HB3.out.trans (below_chg hC4 hf2' HB3.out.size))
    have hst1 := q2.steps
    have hpw1 := q2.powers
    have C := Lib.hid (wal.open_any a D1 fd4 w4 hd4 q2.good (by omega) (by omega))
    have h4s := HB4.out.size
    clear hC4 hf2' HB3 hd4
    go_wp2_with fail
    refine C.out.mono ?_
    clear C
    by_cases h8 : t ≠ [] ∧ k = 0
    · obtain ⟨ht0, rfl⟩ := h8
      have e8 := q7 ht0 (by omega)
      obtain rfl : tl = true := by
        rcases htl.out with ⟨h, _⟩ | ⟨_, h⟩
        · exact h
        · exact absurd h ht0
      rintro e w5 (⟨he, _⟩ | ⟨_, fd5, A5, c5, rfl, hd5, hC5⟩)
      · exact absurd (he.symm.trans e8) (by decide)
      rw [e8]
      have HB5 := Lib.hid (HB4.out.trans (below_chg hC5 hf4 h4s))
      clear hd5 hC5 q6 q7 q2
      have hk0 : b.tmod 3 = 0 := hk
      go_wp2_with fail
      go_ret
      exact ⟨rfl, HB5.out⟩
    have hor : t = [] ∨ G + 1 < 4611686018427387904 := by
      by_cases ht0 : t = []
      · exact .inl ht0
      · exact .inr (by have : k ≠ 0 := fun h => h8 ⟨ht0, h⟩; omega)
    obtain ⟨e0, hAt, hrec, hgen, hlo, hst⟩ := q6 hor
    obtain ⟨lf, hlf, hlf2⟩ : ∃ lf : Nat, (openO D1).X.gen = 4611686018427387903 - (lf : Int) ∧ ((tl = true ∧ (lf : Int) = (k : Int) - 1 ∧ 0 < k) ∨ (tl = false ∧ lf = k)) := by
      rcases htl.out with ⟨h, rfl⟩ | ⟨h, rfl⟩
      · have : k ≠ 0 := fun h => h8 ⟨by simp, h⟩
        exact ⟨k - 1, by rw [hgen, if_neg (by simp)]; omega, .inl ⟨h, by omega, by omega⟩⟩
      · exact ⟨k, by rw [hgen, if_pos rfl]; omega, .inr ⟨h, rfl⟩⟩
    rintro e w5 (⟨_, p, fw5, fd5, A5, n5, c5, rfl, hL5, hfw5, hC5, hSafe⟩ | ⟨he, _⟩)
    case inr => exact absurd e0 he
    have hR5 := hSafe w5 (Nat.le_refl _) (fun _ _ _ => rfl)
    rw [hrec] at hR5
    obtain rfl : n = n5 := HL.out.symm.trans hR5.len
    have HB5 := Lib.hid (HB4.out.trans (below_chg hC5 hf4 h4s))
    have hf5 : ∀ k, fw5 k ∨ fd5 k → w.heap.size ≤ k := from_ret (fun k hk => hC5.new k hk) (fun k hk => hf4 k hk) h4s
    have HH5 := Lib.hid (And.intro hL5 (And.intro hAt hf5))
    clear hL5 hAt hf5 hC5 hSafe hrec hgen hlo q6 q7 q2 hf4 e0
    generalize (openO D1).X = X5 at *
    generalize (openO D1).D = D5 at *
    have CT := Lib.hid (texts_any A n c L w5 ((HR.out.below HB5.out).more HB5.out.size) (by omega))
    have CL := Lib.hid (fun (z : World) (hz : Below w5.heap.size w5 z) (S : Option Addr) (cs : Nat) (hS : RdV z z.heap.size S n (L.map strV)) => alike_any A5 n c5 L S cs z _ _ (hR5.below hz) hS (by omega))
    have hleft : IntKind.i64.wrap (k : Int) = k := IntWalk.i64_in _ ⟨by omega, by omega⟩
    have HTE := Lib.hid (And.intro hT htl)
    clear hT htl
    rcases hlf2 with ⟨rfl, h1, h2⟩ | ⟨rfl, rfl⟩
    · obtain rfl : k = lf + 1 := by omega
      have hk' : b.tmod 3 = (lf : Int) + 1 := by rw [hk]; omega
      have hkn : ((lf : Int) + 1 == 0) = false := by simp; omega
      have hlf3 : (lf : Int) + 1 ≤ 2 := by omega
      clear hk h1
      go_upto_region 18 with (fail)
      go_wp2_with fail
      refine CT.out.mono ?_
      clear CT
      rintro e w7 ⟨S, cs, rfl, hOt, hBt⟩
      have CL2 := Lib.hid (CL.out w7 hBt S cs (by
        obtain ⟨S', c', e, _, _, hV⟩ := hOt.slice
        rw [List.length_map, HL.out] at e hV
        simp only [Value.slice.injEq] at e
        obtain ⟨rfl, -, rfl⟩ := e
        exact hV))
      have HBt := Lib.hid hBt
      clear CL hOt hBt
      go_wp2_with fail
      refine CL2.out.mono ?_
      clear CL2
      rintro e w8 ⟨rfl, q8, rfl⟩
      have HI0 : Hid (∃ X D fw fd, wal.Log (w7.drewN q8) p a X D fw fd ∧ At X D L ∧ X.gen = 4611686018427387903 - ((lf : Int) - (0 : Nat)) ∧ D.stepped ≤ 5 + 3 * 0 ∧ (∀ k, fw k ∨ fd k → w.heap.size ≤ k) ∧ Below w.heap.size w (w7.drewN q8)) :=
        ⟨X5, D5, fw5, fd5, ⟨HH5.out.1.wal.keep (fun k hk => HBt.out.block k (HH5.out.1.wal.lt k hk)), HH5.out.1.disk.keep (fun k hk => HBt.out.block k (HH5.out.1.disk.lt k hk)), HH5.out.1.apart⟩, HH5.out.2.1, by rw [hlf]; omega, hst, HH5.out.2.2, below_drewN (HB5.out.trans (HBt.out.mono HB5.out.size)) q8⟩
      clear HBt HB4 HB5 HH5 hR5 hfw5
      generalize w7.drewN q8 = w9 at *
      go_wp2_with fail
      go_loopw [14] (fun i wr => ∃ (j : Nat), j ≤ lf ∧ i = .int .i64 j ∧ Hid (∃ X D fw fd, wal.Log wr p a X D fw fd ∧ At X D L ∧ X.gen = 4611686018427387903 - ((lf : Int) - (j : Nat)) ∧ D.stepped ≤ 5 + 3 * j ∧ (∀ k, fw k ∨ fd k → w.heap.size ≤ k) ∧ Below w.heap.size w wr)) (fun i _ => lf - (intOf i).toNat)
      case atStart => exact ⟨0, by omega, rfl, HI0⟩
      case round =>
        obtain ⟨j, hj, rfl, HI⟩ := hrel
        clear HI0
        obtain ⟨X, D, fw, fd, hLg, hAt, hgX, hsD, hfr, hBw⟩ := HI.out
        have hpD := hAt.powers
        have hsz := hBw.size
        have hRw := safe_rows HR.out hBw hfr
        have hLn := HL.out
        have C := Lib.hid (wal.rewrite_any p a X D fw fd wr hLg hAt.good (by omega) (by omega) hAt.fit (at_file hAt) A n c L hRw (fun r hr => (hAt.okR r hr).1) hnc hcm (by omega))
        clear HI hRw
        by_cases hlt : j < lf
        · obtain ⟨e1, hA1, hg1, hs1⟩ := hAt.rewrite (by omega) (by omega)
          have HF := Lib.hid (And.intro hA1 (And.intro hg1 (And.intro hfr hBw)))
          clear hA1 hAt hLg hfr hBw hg1
          go_wp2_with fail
          refine C.out.mono ?_
          clear C
          rintro e y1 ⟨fw1, fd1, he, hL1, hC1, hn1, hm1⟩
          rw [e1] at he
          subst he
          have HN : Hid (∃ X D fw fd, wal.Log y1 p a X D fw fd ∧ At X D L ∧ X.gen = 4611686018427387903 - ((lf : Int) - ((j + 1 : Nat) : Int)) ∧ D.stepped ≤ 5 + 3 * (j + 1) ∧ (∀ k, fw k ∨ fd k → w.heap.size ≤ k) ∧ Below w.heap.size w y1) :=
            ⟨_, _, fw1, fd1, hL1, HF.out.1, by rw [HF.out.2.1, hgX]; omega, by omega, from_ret (fun k hk => hC1.new k hk) HF.out.2.2.1 hsz, HF.out.2.2.2.trans (below_chg hC1 HF.out.2.2.1 hsz)⟩
          clear hL1 hC1 hn1 hm1 HF
          go_wp2_with fail
          go_roundw
          case rel => exact ⟨j + 1, by omega, by go_num, HN⟩
          case measure => simp [intOf]; omega
        · obtain rfl : j = lf := by omega
          rw [hAt.full (by omega)] at C
          have hov := hAt.over
          have hrc := hAt.recs
          have HA := Lib.hid hAt
          have HF := Lib.hid (And.intro hfr hBw)
          clear hLg hAt hfr hBw hlf
          go_wp2_with fail
          refine C.out.mono ?_
          clear C
          rintro e y1 ⟨fw1, fd1, rfl, hL1, hC1, hn1, hm1⟩
          have hf1 : ∀ k, fw1 k ∨ fd1 k → w.heap.size ≤ k := from_ret (fun k hk => hC1.new k hk) HF.out.1 hsz
          have hB1y := HF.out.2.trans (below_chg hC1 HF.out.1 hsz)
          have C := Lib.hid (wal.count_any p a X D fw1 fd1 y1 hL1 HA.out.good (by omega) (by omega) HA.out.fit (at_file HA.out))
          rw [hov, hrc, HL.out] at C
          simp only [Bool.false_eq_true, if_false] at C
          clear hC1 hn1 hm1
          go_wp2_with fail
          refine C.out.mono ?_
          clear C
          rintro e y2 ⟨rfl, q2, rfl⟩
          have hL2 : wal.Log (y1.drewN q2) p a X D fw1 fd1 := ⟨hL1.wal.keep (fun _ _ => rfl), hL1.disk.keep (fun _ _ => rfl), hL1.apart⟩
          have hB2y : Below w.heap.size w (y1.drewN q2) := below_drewN hB1y q2
          clear hL1 hB1y
          generalize y1.drewN q2 = y2 at *
          have hs2 := hB2y.size
          obtain ⟨a1, _⟩ := HA.out.append (r := []) Byt.nil (by simp)
          have C := Lib.hid (wal.append_any p a X D fw1 fd1 y2 hL2 HA.out.good (by omega) (by omega) HA.out.fit (at_file HA.out) none 0 0 [] (fun W _ _ => Rd.nil _ _ _) Byt.nil (by omega) (by omega) (by omega))
          have HF2 := Lib.hid (And.intro hf1 hB2y)
          clear hL2 hf1 hB2y
          go_wp2_with fail
          refine C.out.mono ?_
          clear C
          rintro e y3 ⟨fw3, fd3, he, hL3, hC3, hn3, hm3⟩
          rw [a1] at he
          subst he
          have HB3 := Lib.hid (HF2.out.2.trans (below_chg hC3 HF2.out.1 hs2))
          clear hL3 hC3 hn3 hm3
          go_wp2_with fail
          go_ret
          exact ⟨rfl, HB3.out⟩
    · have hkn : True := trivial
      go_upto_region 18 with (fail)
      go_wp2_with fail
      refine CT.out.mono ?_
      clear CT
      rintro e w7 ⟨S, cs, rfl, hOt, hBt⟩
      have CL2 := Lib.hid (CL.out w7 hBt S cs (by
        obtain ⟨S', c', e, _, _, hV⟩ := hOt.slice
        rw [List.length_map, HL.out] at e hV
        simp only [Value.slice.injEq] at e
        obtain ⟨rfl, -, rfl⟩ := e
        exact hV))
      have HBt := Lib.hid hBt
      clear CL hOt hBt
      go_wp2_with fail
      refine CL2.out.mono ?_
      clear CL2
      rintro e w8 ⟨rfl, q8, rfl⟩
      have HI0 : Hid (∃ X D fw fd, wal.Log (w7.drewN q8) p a X D fw fd ∧ At X D L ∧ X.gen = 4611686018427387903 - ((lf : Int) - (0 : Nat)) ∧ D.stepped ≤ 5 + 3 * 0 ∧ (∀ k, fw k ∨ fd k → w.heap.size ≤ k) ∧ Below w.heap.size w (w7.drewN q8)) :=
        ⟨X5, D5, fw5, fd5, ⟨HH5.out.1.wal.keep (fun k hk => HBt.out.block k (HH5.out.1.wal.lt k hk)), HH5.out.1.disk.keep (fun k hk => HBt.out.block k (HH5.out.1.disk.lt k hk)), HH5.out.1.apart⟩, HH5.out.2.1, by rw [hlf]; omega, hst, HH5.out.2.2, below_drewN (HB5.out.trans (HBt.out.mono HB5.out.size)) q8⟩
      clear HBt HB4 HB5 HH5 hR5 hfw5
      generalize w7.drewN q8 = w9 at *
      go_wp2_with fail
      go_loopw [14] (fun i wr => ∃ (j : Nat), j ≤ lf ∧ i = .int .i64 j ∧ Hid (∃ X D fw fd, wal.Log wr p a X D fw fd ∧ At X D L ∧ X.gen = 4611686018427387903 - ((lf : Int) - (j : Nat)) ∧ D.stepped ≤ 5 + 3 * j ∧ (∀ k, fw k ∨ fd k → w.heap.size ≤ k) ∧ Below w.heap.size w wr)) (fun i _ => lf - (intOf i).toNat)
      case atStart => exact ⟨0, by omega, rfl, HI0⟩
      case round =>
        obtain ⟨j, hj, rfl, HI⟩ := hrel
        clear HI0
        obtain ⟨X, D, fw, fd, hLg, hAt, hgX, hsD, hfr, hBw⟩ := HI.out
        have hpD := hAt.powers
        have hsz := hBw.size
        have hRw := safe_rows HR.out hBw hfr
        have hLn := HL.out
        have C := Lib.hid (wal.rewrite_any p a X D fw fd wr hLg hAt.good (by omega) (by omega) hAt.fit (at_file hAt) A n c L hRw (fun r hr => (hAt.okR r hr).1) hnc hcm (by omega))
        clear HI hRw
        by_cases hlt : j < lf
        · obtain ⟨e1, hA1, hg1, hs1⟩ := hAt.rewrite (by omega) (by omega)
          have HF := Lib.hid (And.intro hA1 (And.intro hg1 (And.intro hfr hBw)))
          clear hA1 hAt hLg hfr hBw hg1
          go_wp2_with fail
          refine C.out.mono ?_
          clear C
          rintro e y1 ⟨fw1, fd1, he, hL1, hC1, hn1, hm1⟩
          rw [e1] at he
          subst he
          have HN : Hid (∃ X D fw fd, wal.Log y1 p a X D fw fd ∧ At X D L ∧ X.gen = 4611686018427387903 - ((lf : Int) - ((j + 1 : Nat) : Int)) ∧ D.stepped ≤ 5 + 3 * (j + 1) ∧ (∀ k, fw k ∨ fd k → w.heap.size ≤ k) ∧ Below w.heap.size w y1) :=
            ⟨_, _, fw1, fd1, hL1, HF.out.1, by rw [HF.out.2.1, hgX]; omega, by omega, from_ret (fun k hk => hC1.new k hk) HF.out.2.2.1 hsz, HF.out.2.2.2.trans (below_chg hC1 HF.out.2.2.1 hsz)⟩
          clear hL1 hC1 hn1 hm1 HF
          go_wp2_with fail
          go_roundw
          case rel => exact ⟨j + 1, by omega, by go_num, HN⟩
          case measure => simp [intOf]; omega
        · obtain rfl : j = lf := by omega
          rw [hAt.full (by omega)] at C
          have hov := hAt.over
          have hrc := hAt.recs
          have HA := Lib.hid hAt
          have HF := Lib.hid (And.intro hfr hBw)
          clear hLg hAt hfr hBw hlf
          go_wp2_with fail
          refine C.out.mono ?_
          clear C
          rintro e y1 ⟨fw1, fd1, rfl, hL1, hC1, hn1, hm1⟩
          have hf1 : ∀ k, fw1 k ∨ fd1 k → w.heap.size ≤ k := from_ret (fun k hk => hC1.new k hk) HF.out.1 hsz
          have hB1y := HF.out.2.trans (below_chg hC1 HF.out.1 hsz)
          have C := Lib.hid (wal.count_any p a X D fw1 fd1 y1 hL1 HA.out.good (by omega) (by omega) HA.out.fit (at_file HA.out))
          rw [hov, hrc, HL.out] at C
          simp only [Bool.false_eq_true, if_false] at C
          clear hC1 hn1 hm1
          go_wp2_with fail
          refine C.out.mono ?_
          clear C
          rintro e y2 ⟨rfl, q2, rfl⟩
          have hL2 : wal.Log (y1.drewN q2) p a X D fw1 fd1 := ⟨hL1.wal.keep (fun _ _ => rfl), hL1.disk.keep (fun _ _ => rfl), hL1.apart⟩
          have hB2y : Below w.heap.size w (y1.drewN q2) := below_drewN hB1y q2
          clear hL1 hB1y
          generalize y1.drewN q2 = y2 at *
          have hs2 := hB2y.size
          obtain ⟨a1, _⟩ := HA.out.append (r := []) Byt.nil (by simp)
          have C := Lib.hid (wal.append_any p a X D fw1 fd1 y2 hL2 HA.out.good (by omega) (by omega) HA.out.fit (at_file HA.out) none 0 0 [] (fun W _ _ => Rd.nil _ _ _) Byt.nil (by omega) (by omega) (by omega))
          have HF2 := Lib.hid (And.intro hf1 hB2y)
          clear hL2 hf1 hB2y
          go_wp2_with fail
          refine C.out.mono ?_
          clear C
          rintro e y3 ⟨fw3, fd3, he, hL3, hC3, hn3, hm3⟩
          rw [a1] at he
          subst he
          have HB3 := Lib.hid (HF2.out.2.trans (below_chg hC3 HF2.out.1 hs2))
          clear hL3 hC3 hn3 hm3
          go_wp2_with fail
          go_ret
          exact ⟨rfl, HB3.out⟩
end Go.Proofs.Ytafdgibkhefplaa.law5
