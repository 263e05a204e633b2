/- WalPicks's walk: it answers true of every input, and writes nothing that was there. No condition but those of the frame. -/
import Derived.Test.YtafdgibkhefplaaWalLast
import Derived.Test.YtafdgibkhefplaaStep
namespace Go.Proofs.Ytafdgibkhefplaa.law5
open Go.RowKit Go.Proofs.Ytafdgibkhefplaa.kit Go.Proofs.Ytafdgibkhefplaa.nums Go.Proofs.Ytafdgibkhefplaa.ds Go.Proofs.Ytafdgibkhefplaa.ws Go.Proofs.Ytafdgibkhefplaa.ref5 Go.Proofs.Ytafdgibkhefplaa.law0 Go.Proofs.Ytafdgibkhefplaa.bytes Go.Proofs.Ytafdgibkhefplaa.rec_
set_option linter.unusedVariables false

theorem step_append_g {P : Program} {w : World} {ops : Array Oper} {o : Oper} {a : Act} {K : Act → World → Prop} {Q : Exit → Act → World → Prop} {E : Prop} (hw : Region.wanted o (yielded ops a.tmps) = true) (s x : Operand) (t : TypeId) (ho : o.op = .call { callee := .builtin .append, args := #[s, x], argTypes := #[t, t] }) (V X : Value) (hs : a.eval s = V) (hx : a.eval x = X) (R : Value → World → Prop)
    (hrun : ∃ v w', (Builtin.append_ #[t, t] o.type #[V, X]).run P w = .ok v w' ∧ R v w') (hK : ∀ v w', R v w' → K (a.put o.dst v) w') :
    if Region.wanted o (yielded ops a.tmps) = true then Oper.wp P o a w K Q else E := by
  rw [if_pos hw]
  obtain ⟨v, w', hr, hR⟩ := hrun
  subst hs hx
  unfold Oper.wp execOp
  simp only [ho, resolve, invoke, builtin, Sem.run_bind, Sem.run_pure, Result.andThen_ok, List.map_toArray, List.map_cons, List.map_nil, hr]
  exact hK _ _ hR
theorem one_at (w : World) (E : TypeId) (z : Value) : RdV (w.alloc (.cells #[z] E)) (w.alloc (.cells #[z] E)).heap.size (some ⟨w.heap.size, 0, none⟩) 1 [z] := (RdV.one w E z).more (by simp)
theorem one_drew (w : World) (E : TypeId) (z : Value) {y : World} (h : Below (w.alloc (.cells #[z] E)).drew.heap.size (w.alloc (.cells #[z] E)).drew y) : RdV y (w.alloc (.cells #[z] E)).heap.size (some ⟨w.heap.size, 0, none⟩) 1 [z] :=
  (one_at w E z).below (((Below.refl _ _).drew).trans (h.mono (Nat.le_of_eq rfl)))
set_option maxRecDepth 100000 in
set_option maxHeartbeats 4000000 in
theorem picks_walk (A1 : Option Addr) (n1 c1 : Nat) (L1 : List (List Int)) (A2 : Option Addr) (n2 c2 : Nat) (L2 : List (List Int)) (g h : Int) (T : Option Addr) (nt ct : Nat) (t : List Int) (M : Option Addr) (nm cm : Nat) (m : List Int) (w : World)
    (hR1 : RdS w w.heap.size A1 n1 L1) (hY1 : ∀ l ∈ L1, Byt l) (hnc1 : n1 ≤ c1) (hcm1 : c1 ≤ maxLen) (hR2 : RdS w w.heap.size A2 n2 L2) (hY2 : ∀ l ∈ L2, Byt l) (hnc2 : n2 ≤ c2) (hcm2 : c2 ≤ maxLen) (hg0 : (Lit.int .u64 g).wf = true) (hh0 : (Lit.int .u64 h).wf = true)
    (hT : Rd w w.heap.size T nt t) (hYt : Byt t) (hnct : nt ≤ ct) (hcmt : ct ≤ maxLen) (hM : Rd w w.heap.size M nm m) (hYm : Byt m) (hncm : nm ≤ cm) (hcmm : cm ≤ maxLen) :
    Calls Try.prog 7 #[.slice A1 n1 c1, .slice A2 n2 c2, .int .u64 g, .int .u64 h, .slice T nt ct, .slice M nm cm] w fun e w' => e = .returned (.bool true) ∧ Below w.heap.size w w' := by
  have hg : 0 ≤ g ∧ g ≤ 18446744073709551615 := by simpa [Lit.wf, IntKind.min, IntKind.max, IntKind.signed, IntKind.bits] using hg0
  have hh : 0 ≤ h ∧ h ≤ 18446744073709551615 := by simpa [Lit.wf, IntKind.min, IntKind.max, IntKind.signed, IntKind.bits] using hh0
  clear hg0 hh0
  have hx1 := hcm1
  have hx2 := hcm2
  have hx3 := hcmt
  have hx4 := hcmm
  unfold maxLen at hx1 hx2 hx3 hx4
  have HL1 := Lib.hid hR1.len
  have HL2 := Lib.hid hR2.len
  have HR1 := Lib.hid hR1
  have HR2 := Lib.hid hR2
  have HT := Lib.hid hT
  have HM := Lib.hid hM
  clear hR1 hR2 hT hM
  obtain ⟨G, hG, hG2⟩ : ∃ G : Int, 1 + g.tmod 1000 = G ∧ 1 ≤ G ∧ G ≤ 1000 := by
    have h0 : 0 ≤ g := hg.1
    have h1 := Int.tmod_nonneg 1000 h0
    have h2 := Int.tmod_lt_of_pos g (show (0 : Int) < 1000 by omega)
    exact ⟨_, rfl, by omega, by omega⟩
  obtain ⟨H, hH, hH2⟩ : ∃ G : Int, 1 + h.tmod 1000 = G ∧ 1 ≤ G ∧ G ≤ 1000 := by
    have h0 : 0 ≤ h := hh.1
    have h1 := Int.tmod_nonneg 1000 h0
    have h2 := Int.tmod_lt_of_pos h (show (0 : Int) < 1000 by omega)
    exact ⟨_, rfl, by omega, by omega⟩
  have hw1 : IntKind.u64.wrap (1 + g.tmod 1000) = G := by rw [hG]; exact IntWalk.u64_in _ ⟨by omega, by omega⟩
  have hw2 : IntKind.u64.wrap (1 + h.tmod 1000) = H := by rw [hH]; exact IntWalk.u64_in _ ⟨by omega, by omega⟩
  have HGH := Lib.hid (And.intro hg hh)
  clear hg hh hG hH
  go_enter Try.func7, Try.ntmps7
  go_wp2_with fail
  refine (begun_any w).mono ?_
  rintro e w1 ⟨rfl, hB1⟩
  by_cases hn1 : n1 ≤ 10
  case neg =>
    go_wp2_with fail
    go_ret
    exact ⟨rfl, hB1⟩
  by_cases hn2 : n2 ≤ 10
  case neg =>
    go_wp2_with fail
    go_ret
    exact ⟨rfl, hB1⟩
  by_cases hnt : nt ≤ 100
  case neg =>
    go_wp2_with fail
    go_ret
    exact ⟨rfl, hB1⟩
  by_cases hnm : nm ≤ 100
  case neg =>
    go_wp2_with fail
    go_ret
    exact ⟨rfl, hB1⟩
  have C := Lib.hid (sum_any A1 n1 c1 L1 2000 w1 _ (HR1.out.below hB1) (by omega) (by omega))
  have C2 := Lib.hid (sum_any A2 n2 c2 L2 2000 w1 _ (HR2.out.below hB1) (by omega) (by omega))
  go_wp2_with fail
  refine C.out.mono ?_
  clear C
  rintro e w1' ⟨r1, rfl, hr1, rfl⟩
  by_cases hr16 : r1 ≤ 2000
  case neg =>
    go_wp2_with fail
    go_ret
    exact ⟨rfl, hB1⟩
  have hfl1 := hr1 hr16
  clear hr1
  go_wp2_with fail
  refine C2.out.mono ?_
  clear C2
  rintro e w1' ⟨r2, rfl, hr2, rfl⟩
  by_cases hr26 : r2 ≤ 2000
  case neg =>
    go_wp2_with fail
    go_ret
    exact ⟨rfl, hB1⟩
  have hfl2 := hr2 hr26
  clear hr2
  have C := Lib.hid (ref3.scan3_any T nt ct t w1 (HT.out.on hB1 hB1.size) hYt (by omega) hnct hcmt)
  go_wp2_with fail
  refine C.out.mono ?_
  clear C
  rintro e w2 ⟨A9, n9, c9, xs9, L9, q9, rfl, hx9, hl9, hS9, hO9, hOs9, hB2⟩
  have hB02 := hB1.trans (hB2.mono hB1.size)
  by_cases hn9 : n9 = 0
  case neg =>
    have hpos : (0 : Int) < n9 := by omega
    clear hO9 hOs9
    go_wp2_with fail
    go_ret
    exact ⟨rfl, hB02⟩
  subst hn9
  obtain rfl : L9 = [] := List.eq_nil_of_length_eq_zero hl9
  have tN : nextE t 0 ≠ 0 := by
    obtain ⟨h1, h2⟩ := hS9
    have h1' : (0 : Int) = q9 := h1
    rw [← h1'] at h2
    exact h2
  clear hO9 hOs9 hS9 hB2 hB1
  have sml := fun (L : List (List Int)) (r : Nat) (hY : ∀ l ∈ L, Byt l) (hf : L.flatten.length = r) (hr : r ≤ 2000) => (show Recs L from fun x hx => ⟨hY x hx, by
    obtain ⟨a, b, e⟩ := List.append_of_mem hx
    rw [e, List.flatten_append, List.flatten_cons, List.length_append, List.length_append] at hf
    omega⟩)
  have hK1 := sml L1 r1 hY1 hfl1 hr16
  have hK2 := sml L2 r2 hY2 hfl2 hr26
  clear sml
  have htl := HT.out.len
  have hW1 : (rwB G L1).length ≤ 3000 := by rw [rwB_len, HL1.out]; omega
  have hW2 : (rwB H L2).length ≤ 3000 := by rw [rwB_len, HL2.out]; omega
  have hB1Y : Byt (rwB G L1 ++ t) := (rwB_byt hY1).append hYt
  have hB2Y : Byt (rwB H L2 ++ t) := (rwB_byt hY2).append hYt
  obtain ⟨q1, q2, q3, q4, q5⟩ := hand_one hB1Y (by rw [List.length_append]; omega)
  obtain ⟨s1, s2, s3, s4⟩ := hand_two hB1Y hB2Y (by rw [List.length_append]; omega) (by rw [List.length_append]; omega)
  have hpk := pick_two (D := (DS.fresh.appS 0 (rwB G L1 ++ t)).appS 1 (rwB H L2 ++ t)) hG2.1 (by omega) hH2.1 (by omega) hK1 hK2 hYt tN s3 s4
  go_wp2_with fail
  refine (disk.new_any w2).mono ?_
  rintro e w3 ⟨a, fp, rfl, hd3, hf3, hB3⟩
  have hB03 := hB02.trans (hB3.mono hB02.size)
  have hf3' : ∀ k, fp k → w.heap.size ≤ k := fun k hk => Nat.le_trans hB02.size (hf3 k hk)
  have C := Lib.hid (whole_any G A1 n1 c1 L1 T nt ct t w3 ((HR1.out.below hB03).more hB03.size) ((HT.out.below hB03).more hB03.size) hY1 (by omega) (by omega) (by omega) (by omega) (by omega))
  clear hf3
  go_wp2_with fail
  refine C.out.mono ?_
  clear C
  rintro e w4 ⟨A4, n4, c4, rfl, hl4, hO4, hB4⟩
  have hc4 := hO4.caps hl4
  have hd4 := hd3.keep (fun k hk => hB4.block k (hd3.lt k hk))
  have C := Lib.hid (disk.append_any a DS.fresh fp w4 hd4 DS.Good.fresh (show (0 : Nat) ≤ 1000000 by omega) (show (0 : Nat) ≤ 1000000 by omega) 0 A4 n4 c4 (rwB G L1 ++ t) (hO4.rd hl4) hB1Y (by rw [← hl4, List.length_append]; omega) hc4.1 hc4.2 (fun h0 b o e hk => by
    obtain ⟨g, hg, hge⟩ := hO4.form h0
    have := hd3.lt b hk
    cases hg.symm.trans e
    omega))
  rw [q1] at C
  have HB4 := Lib.hid (hB03.trans (hB4.mono hB03.size))
  clear hO4 hd4 hd3 hB4 hB3 hB03 hB02
  generalize DS.fresh.appS 0 (rwB G L1 ++ t) = D1 at *
  go_wp2_with fail
  refine C.out.mono ?_
  clear C
  rintro e w5 ⟨fd5, rfl, hd5, hC5⟩
  have hf5 : ∀ k, fd5 k → w.heap.size ≤ k := from_ret hC5.new hf3' HB4.out.size
  have HB5 := Lib.hid (HB4.out.trans (below_chg hC5 hf3' HB4.out.size))
  have hst1 := q2.steps
  have hpw1 := q2.powers
  have C := Lib.hid (whole_any H A2 n2 c2 L2 T nt ct t w5 ((HR2.out.below HB5.out).more HB5.out.size) ((HT.out.below HB5.out).more HB5.out.size) hY2 (by omega) (by omega) (by omega) (by omega) (by omega))
  have h5s := HB5.out.size
  clear hC5 hf3' HB4
  go_wp2_with fail
  refine C.out.mono ?_
  clear C
  rintro e w6 ⟨A6, n6, c6, rfl, hl6, hO6, hB6⟩
  have hc6 := hO6.caps hl6
  have hd6 := hd5.keep (fun k hk => hB6.block k (hd5.lt k hk))
  have C := Lib.hid (disk.append_any a D1 fd5 w6 hd6 q2.good (by omega) (by omega) 1 A6 n6 c6 (rwB H L2 ++ t) (hO6.rd hl6) hB2Y (by rw [← hl6, List.length_append]; omega) hc6.1 hc6.2 (fun h0 b o e hk => by
    obtain ⟨g, hg, hge⟩ := hO6.form h0
    have := hd5.lt b hk
    cases hg.symm.trans e
    omega))
  rw [s1] at C
  have HB6 := Lib.hid (HB5.out.trans (hB6.mono h5s))
  have h6s := HB6.out.size
  clear hO6 hd6 hd5 hB6 HB5
  generalize D1.appS 1 (rwB H L2 ++ t) = D2 at *
  go_wp2_with fail
  refine C.out.mono ?_
  clear C
  rintro e w7 ⟨fd7, rfl, hd7, hC7⟩
  have hf7 : ∀ k, fd7 k → w.heap.size ≤ k := from_ret hC7.new hf5 h6s
  have HB7 := Lib.hid (HB6.out.trans (below_chg hC7 hf5 h6s))
  have h7s := HB7.out.size
  have hst2 := s2.steps
  have hpw2 := s2.powers
  have C := Lib.hid (wal.open_any a D2 fd7 w7 hd7 s2.good (by omega) (by omega))
  obtain ⟨f, K, gk, hf, hgk1, hgk2, hKr, hKl, hfa, hpp, hwh⟩ : ∃ (f : Int) (K : List (List Int)) (gk : Int), (f = 0 ∨ f = 1) ∧ 1 ≤ gk ∧ gk < 4000000 ∧ Recs K ∧ (rwB gk K).length ≤ 3000 ∧ D2.file f = rwB gk K ++ t ∧ pick D2 = ⟨⟨f, gk, K, D2.powers, false, (D2.file f).length⟩, decide (t ≠ [])⟩ ∧ ((G < H ∧ K = L2) ∨ (¬ G < H ∧ K = L1)) := by
    by_cases hlt : G < H
    · rw [if_pos hlt] at hpk
      exact ⟨1, L2, H, .inr rfl, hH2.1, by omega, hK2, hW2, s4, hpk, .inl ⟨hlt, rfl⟩⟩
    · rw [if_neg hlt] at hpk
      exact ⟨0, L1, G, .inl rfl, hG2.1, by omega, hK1, hW1, s3, hpk, .inr ⟨hlt, rfl⟩⟩
  obtain ⟨e0, hAt, hrec, hgen, hlo, hst⟩ := (hand_open s2 (t := t) hf hgk1 (by omega) hKr (by omega) hfa hpp).1 (.inr (by omega))
  clear hC7 hf5 HB6 hd7 hpk hpp hfa q1 q2 q3 q4 q5 s1 s2 s3 s4
  go_wp2_with fail
  refine C.out.mono ?_
  clear C
  rintro e w8 (⟨_, p, fw8, fd8, A8, n8, c8, rfl, hL8, hfw8, hC8, hSafe⟩ | ⟨he, _⟩)
  case inr => exact absurd e0 he
  have hR8 := hSafe w8 (Nat.le_refl _) (fun _ _ _ => rfl)
  rw [hrec] at hR8
  have HB8 := Lib.hid (HB7.out.trans (below_chg hC8 hf7 h7s))
  have hf8 : ∀ k, fw8 k ∨ fd8 k → w.heap.size ≤ k := from_ret (fun k hk => hC8.new k hk) (fun k hk => hf7 k hk) h7s
  have HH8 := Lib.hid (And.intro hL8 (And.intro hAt hf8))
  clear hL8 hAt hf8 hC8 hSafe hrec hgen hf7 e0
  generalize (openO D2).X = X8 at *
  generalize (openO D2).D = D8 at *
  go_upto_if 92 with (fail)
  go_cut [16, 17, 18, 19] from 16 (fun s16 s17 s18 s wx => ∃ Aw nw cw, s = .slice Aw nw cw ∧ s16 = .pointer (some ⟨p, 0, none⟩) ∧ s17 = .slice A8 n8 c8 ∧ s18 = .int .i64 0 ∧ Hid (RdS w w.heap.size Aw nw K) ∧ wx = w8)
  case first =>
    rcases hwh with ⟨hlt, rfl⟩ | ⟨hlt, rfl⟩
    · go_wp2_with fail
      go_meet
      case rel => exact ⟨A2, n2, c2, rfl, rfl, rfl, rfl, HR2.out, rfl⟩
    · go_wp2_with fail
      go_meet
      case rel => exact ⟨A1, n1, c1, rfl, rfl, rfl, rfl, HR1.out, rfl⟩
  case rest =>
    obtain ⟨Aw, nw, cw, rfl, rfl, rfl, rfl, hRw, rfl⟩ := hcut
    have hwl := hRw.out.len
    obtain rfl : nw = n8 := hwl.symm.trans hR8.len
    have hKn : nw ≤ 10 := by
      rcases hwh with ⟨_, rfl⟩ | ⟨_, rfl⟩
      · rw [← hwl, HL2.out]; exact hn2
      · rw [← hwl, HL1.out]; exact hn1
    have hml := HM.out.len
    obtain ⟨e1, ef1, eg1, er1, ed1, el1, ec1, eG1, es1, ep1, eh1, eo1, eF1⟩ := HH8.out.2.1.append (r := m) hYm (by omega)
    have hrm : Recs [m] := fun r hr => by rw [List.mem_singleton] at hr; subst hr; exact ⟨hYm, by omega⟩
    obtain ⟨z1, z2, z3, z4, z5, z6, z7⟩ := sync_again (X := (appendO X8 D8 m).X) (D := (appendO X8 D8 m).D) (g := X8.gen) (R := K) (r := m) ec1 eG1 (by omega) ep1 (by rw [ef1]; exact HH8.out.2.1.file) HH8.out.2.1.g1 HH8.out.2.1.g2 hKr hrm ed1 el1 (by rw [ef1]; exact eh1) (by rw [ef1, eo1]; exact hlo)
    have hXf : (appendO X8 D8 m).X.file ≠ -1 := by rw [ef1]; exact at_file HH8.out.2.1
    have hA8 := HH8.out.2.1
    have hst8 := hA8.steps
    have hpw8 := hA8.powers
    have CT := Lib.hid (texts_any Aw nw cw K wc ((hRw.out.below HB8.out).more HB8.out.size) (by omega))
    have CL := Lib.hid (fun (z : World) (hz : Below wc.heap.size wc z) (S : Option Addr) (cs : Nat) (hS : RdV z z.heap.size S nw (K.map strV)) => alike_any A8 nw c8 K S cs z _ _ (hR8.below hz) hS (by omega))
    clear ef1 eg1 er1 ed1 el1 ec1 eh1 eo1 hlo hwh
    go_wp2_with fail
    refine CT.out.mono ?_
    clear CT
    rintro e w9 ⟨S, cs, rfl, hOt, hBt⟩
    have CL2 := Lib.hid (CL.out w9 hBt S cs (by
      obtain ⟨S', c', e, _, _, hV⟩ := hOt.slice
      rw [List.length_map, hwl] at e hV
      simp only [Value.slice.injEq] at e
      obtain ⟨rfl, -, rfl⟩ := e
      exact hV))
    have HBt := Lib.hid hBt
    clear CL hOt hBt
    go_wp2_with fail
    refine CL2.out.mono ?_
    clear CL2
    rintro e w10 ⟨rfl, q8, rfl⟩
    have HL := Lib.hid (show wal.Log (w9.drewN q8) p a X8 D8 fw8 fd8 from ⟨HH8.out.1.wal.keep (fun k hk => HBt.out.block k (HH8.out.1.wal.lt k hk)), HH8.out.1.disk.keep (fun k hk => HBt.out.block k (HH8.out.1.disk.lt k hk)), HH8.out.1.apart⟩)
    have HB9 := Lib.hid (below_drewN (HB8.out.trans (HBt.out.mono HB8.out.size)) q8)
    have hf8 := HH8.out.2.2
    clear HBt HB8 HH8 hR8 hfw8 HB7
    generalize w9.drewN q8 = w10 at *
    have h10s := HB9.out.size
    have C := Lib.hid (wal.append_any p a X8 D8 fw8 fd8 w10 HL.out hA8.good (by omega) (by omega) hA8.fit (at_file hA8) M nm cm m (safe_rd HM.out HB9.out hf8) hYm (by omega) hncm hcmm)
    generalize (appendO X8 D8 m) = O8 at *
    go_wp2_with fail
    refine C.out.mono ?_
    clear C
    rintro e w11 ⟨fw11, fd11, he, hL11, hC11, hn11, hm11⟩
    rw [e1] at he
    subst he
    have hf11 : ∀ k, fw11 k ∨ fd11 k → w.heap.size ≤ k := from_ret (fun k hk => hC11.new k hk) hf8 h10s
    have HB11 := Lib.hid (HB9.out.trans (below_chg hC11 hf8 h10s))
    have h11s := HB11.out.size
    have C := Lib.hid (wal.sync_any p a O8.X O8.D fw11 fd11 w11 hL11 eG1 (by omega) (by omega) eF1 hXf)
    clear hC11 hn11 hm11 hL11 HL HB9
    go_wp2_with fail
    refine C.out.mono ?_
    clear C
    rintro e w12 ⟨fw12, fd12, he, hL12, hC12, hn12, hm12⟩
    rw [z1] at he
    subst he
    have hf12 : ∀ k, fw12 k ∨ fd12 k → w.heap.size ≤ k := from_ret (fun k hk => hC12.new k hk) hf11 h11s
    have HB12 := Lib.hid (HB11.out.trans (below_chg hC12 hf11 h11s))
    have h12s := HB12.out.size
    have hg12 : ((syncO O8.X O8.D).D.powS []).Good := z3.pow (by omega) []
    have hp12 : ((syncO O8.X O8.D).D.powS []).powers = 1 := by show (syncO O8.X O8.D).D.powers + 1 = 1; omega
    have hs12 : ((syncO O8.X O8.D).D.powS []).stepped ≤ 960 := z4
    have C := Lib.hid (disk.power_any a (syncO O8.X O8.D).D fd12 w12 hL12.disk z3 (by omega) (by omega) none 0 0 [] (RdV.nil _ _ _) (fun z hz => by cases hz) (fun h => absurd h (by omega)) (by omega))
    have hfd12 : ∀ k, fd12 k → w.heap.size ≤ k := fun k hk => hf12 k (.inr hk)
    clear hC12 hn12 hm12 hL12 hf12 hf11 HB11 z3 z4 z5 z1 z2 eG1 eF1 es1 ep1 hXf hf8
    generalize (syncO O8.X O8.D).D.powS [] = D13 at *
    go_wp2_with fail
    refine C.out.mono ?_
    clear C
    rintro e w13 ⟨fd13, rfl, hd13, hC13⟩
    have hf13 : ∀ k, fd13 k → w.heap.size ≤ k := from_ret hC13.new hfd12 h12s
    have HB13 := Lib.hid (HB12.out.trans (below_chg hC13 hfd12 h12s))
    have h13s := HB13.out.size
    have C := Lib.hid (wal.open_any a D13 fd13 w13 hd13 hg12 (by omega) (by omega))
    clear hC13 hfd12 HB12 hd13
    go_wp2_with fail
    refine C.out.mono ?_
    clear C
    rintro e w14 (⟨_, p2, fw14, fd14, A14, n14, c14, rfl, hL14, hfw14, hC14, hSafe⟩ | ⟨he, _⟩)
    case inr => exact absurd z6 he
    have hR14 := hSafe w14 (Nat.le_refl _) (fun _ _ _ => rfl)
    rw [z7] at hR14
    obtain rfl : nw + 1 = n14 := by
      have := hR14.len
      rw [List.length_append, hwl] at this
      exact this
    have HB14 := Lib.hid (HB13.out.trans (below_chg hC14 hf13 h13s))
    have hRK := hRw.out.below HB14.out
    have hRM := HM.out.below HB14.out
    have h14s := HB14.out.size
    clear hL14 hfw14 hC14 hSafe hf13 HB13 hRw z7 z6
    go_upto_region 20 with (fail)
    have HSB := Lib.hid (show ∀ wq wz : World, (Below w14.heap.size w14 wq ∧ (convert 35 9 (.slice M nm cm)).run Try.prog wq = .ok (.string (strOfNums m)) wq) → Below wq.heap.size wq wz → (Below w14.heap.size w14 wz ∧ (convert 35 9 (.slice M nm cm)).run Try.prog wz = .ok (.string (strOfNums m)) wz) from fun wq wz h hB => by
      have hBz := h.1.trans (hB.mono h.1.size)
      exact ⟨hBz, run_string_rd wz 35 5 9 Try.underlying35 Try.underlying5 Try.underlying9 _ M nm cm m (hRM.below (hBz.mono h14s))⟩)
    have HSB2 := Lib.hid (show ∀ wq wz : World, (Below w14.heap.size w14 wq ∧ (convert 35 9 (.slice M nm cm)).run Try.prog wq = .ok (.string (strOfNums m)) wq) → Below w14.heap.size wq wz → (Below w14.heap.size w14 wz ∧ (convert 35 9 (.slice M nm cm)).run Try.prog wz = .ok (.string (strOfNums m)) wz) from fun wq wz h hB => by
      have hBz := h.1.trans hB
      exact ⟨hBz, run_string_rd wz 35 5 9 Try.underlying35 Try.underlying5 Try.underlying9 _ M nm cm m (hRM.below (hBz.mono h14s))⟩)
    have HSQ := Lib.hid (fun (wq : World) (q : Nat) (h : Below w14.heap.size w14 wq ∧ (convert 35 9 (.slice M nm cm)).run Try.prog wq = .ok (.string (strOfNums m)) wq) => HSB.out wq (wq.drewN q) h (below_drewN (Below.refl _ _) q))
    have HFI := Lib.hid (fun (wq : World) (h : Below w14.heap.size w14 wq ∧ (convert 35 9 (.slice M nm cm)).run Try.prog wq = .ok (.string (strOfNums m)) wq) => HB14.out.trans (h.1.mono h14s))
    have hst0 := HSB.out w14 w14.drew ⟨Below.refl _ _, run_string_rd w14 35 5 9 Try.underlying35 Try.underlying5 Try.underlying9 _ M nm cm m hRM⟩ (Below.refl _ _).drew
    have CT := Lib.hid (fun (wq : World) (h : Below w14.heap.size w14 wq ∧ (convert 35 9 (.slice M nm cm)).run Try.prog wq = .ok (.string (strOfNums m)) wq) => (texts_any Aw nw cw K wq ((hRK.below (h.1.mono h14s)).more (Nat.le_trans h14s h.1.size)) (by omega)).mono (R' := fun e w' => ∃ A' c', e = .returned (.slice A' nw c') ∧ OwnV 9 w' w14.heap.size (.slice A' nw c') (K.map strV) ∧ Below wq.heap.size wq w') (by
      rintro e w' ⟨A', c', h1, h2, h3⟩
      exact ⟨A', c', h1, h2.more h.1.size, h3⟩))
    have HAP := Lib.hid (fun (wq : World) (S5 : Option Addr) (c5 x Bx : Nat) (h : Below w14.heap.size w14 wq ∧ (convert 35 9 (.slice M nm cm)).run Try.prog wq = .ok (.string (strOfNums m)) wq) (hO : OwnV 9 wq w14.heap.size (.slice S5 nw c5) (K.map strV)) (hx : RdV wq Bx (some ⟨x, 0, none⟩) 1 [strV m]) => (show ∃ v y, (Builtin.append_ #[44, 44] 44 #[.slice S5 nw c5, .slice (some ⟨x, 0, none⟩) 1 1]).run Try.prog wq = .ok v y ∧ ∃ A9 c9, v = .slice A9 (nw + 1) c9 ∧ OwnV 9 y w14.heap.size (.slice A9 (nw + 1) c9) (K.map strV ++ [strV m]) ∧ Below w14.heap.size wq y from by
      obtain ⟨A', c', y, r1, r2, r3, _⟩ := run_append_v (P := Try.prog) wq w14.heap.size 44 44 9 (.string ⟨#[]⟩) 16 Try.underlying44 infoS rfl S5 nw c5 (K.map strV) (by rw [List.length_map, hwl]) hO Bx (some ⟨x, 0, none⟩) 1 1 [strV m] hx (by intro u hu; rw [List.mem_singleton] at hu; subst hu; rfl) (by omega) (by unfold maxLen; omega) h.1.size
      exact ⟨_, y, r1, A', c', rfl, r2, r3⟩))
    have CA := Lib.hid (fun (wq : World) (S9 : Option Addr) (c9 : Nat) (h : Below w14.heap.size w14 wq ∧ (convert 35 9 (.slice M nm cm)).run Try.prog wq = .ok (.string (strOfNums m)) wq) (hO : OwnV 9 wq w14.heap.size (.slice S9 (nw + 1) c9) (K.map strV ++ [strV m])) => alike_any A14 (nw + 1) c14 (K ++ [m]) S9 c9 wq _ _ (hR14.below h.1) (by
      obtain ⟨S', c', e, _, _, hV⟩ := hO.slice
      rw [List.length_append, List.length_map, hwl] at e hV
      simp only [Value.slice.injEq] at e
      obtain ⟨rfl, -, rfl⟩ := e
      rw [List.map_append]
      exact hV) (by omega))
    refine wp_region_held_drew (S := fun wq => Below w14.heap.size w14 wq ∧ (convert 35 9 (.slice M nm cm)).run Try.prog wq = .ok (.string (strOfNums m)) wq) (by kernel_rfl) ?s_0 (fun hHeld => ?_)
    case s_0 => exact hst0
    clear hst0
    refine wpAnyH_take (i := 0) (oi := { dst := some 122, op := Go.Op.move (Go.Operand.tmp 18), type := 41, pos := "more.go:49", after := #[], guard := none }) (v := ?v_0_1) rfl (by kernel_rfl) (by kernel_rfl) (by kernel_rfl) (fun _ _ _ h => h) (Or.inl ⟨by rfl, ?y_0_1⟩) (by assumption) ?_
    case y_0_1 => (intro wq hSw; (try dsimp only at hSw); go_simp; first | done | with_reducible rfl)
    try simp only [Act.put, List.setIfInBounds_toArray, List.set_cons_zero, List.set_cons_succ]
    refine wpAnyH_take (i := 1) (oi := { dst := some 123, op := Go.Op.binOp Go.BinOp.eql 41 (Go.Operand.tmp 122) (Go.Operand.const (Go.Value.int Go.IntKind.i64 0)) 41, type := 4, pos := "more.go:49", after := #[{ on := 0, ground := Go.Ground.data }], guard := none }) (v := ?v_1_1) rfl (by kernel_rfl) (by kernel_rfl) (by kernel_rfl) (fun _ _ _ h => h) (Or.inl ⟨by rfl, ?y_1_1⟩) (by assumption) ?_
    case y_1_1 => (intro wq hSw; (try dsimp only at hSw); go_simp; first | done | with_reducible rfl)
    try simp only [Act.put, List.setIfInBounds_toArray, List.set_cons_zero, List.set_cons_succ]
    refine wpAnyH_take (i := 2) (oi := { dst := some 124, op := Go.Op.move (Go.Operand.tmp 123), type := 4, pos := "more.go:49", after := #[{ on := 1, ground := Go.Ground.data }], guard := none }) (v := ?v_2_1) rfl (by kernel_rfl) (by kernel_rfl) (by kernel_rfl) (fun _ _ _ h => h) (Or.inl ⟨by rfl, ?y_2_1⟩) (by assumption) ?_
    case y_2_1 => (intro wq hSw; (try dsimp only at hSw); go_simp; first | done | with_reducible rfl)
    try simp only [Act.put, List.setIfInBounds_toArray, List.set_cons_zero, List.set_cons_succ]
    refine wpAnyH_take (i := 3) (oi := { dst := some 125, op := Go.Op.move (Go.Operand.tmp 21), type := 36, pos := "more.go:49", after := #[{ on := 2, ground := Go.Ground.guard }], guard := some (2, true) }) (v := ?v_3_1) rfl (by kernel_rfl) (by kernel_rfl) (by kernel_rfl) (fun _ _ _ h => h) (Or.inl ⟨by rfl, ?y_3_1⟩) (by assumption) ?_
    case y_3_1 => (intro wq hSw; (try dsimp only at hSw); go_simp; first | done | with_reducible rfl)
    try simp only [Act.put, List.setIfInBounds_toArray, List.set_cons_zero, List.set_cons_succ]
    refine wpAnyH_take (i := 4) (oi := { dst := some 126, op := Go.Op.move (Go.Operand.tmp 19), type := 36, pos := "more.go:49", after := #[{ on := 2, ground := Go.Ground.guard }], guard := some (2, true) }) (v := ?v_4_1) rfl (by kernel_rfl) (by kernel_rfl) (by kernel_rfl) (fun _ _ _ h => h) (Or.inl ⟨by rfl, ?y_4_1⟩) (by assumption) ?_
    case y_4_1 => (intro wq hSw; (try dsimp only at hSw); go_simp; first | done | with_reducible rfl)
    try simp only [Act.put, List.setIfInBounds_toArray, List.set_cons_zero, List.set_cons_succ]
    refine wpAnyH_take (i := 6) (oi := { dst := some 128, op := Go.Op.move (Go.Operand.tmp 5), type := 35, pos := "more.go:49", after := #[{ on := 2, ground := Go.Ground.guard }], guard := some (2, true) }) (v := ?v_6_1) rfl (by kernel_rfl) (by kernel_rfl) (by kernel_rfl) (fun _ _ _ h => h) (Or.inl ⟨by rfl, ?y_6_1⟩) (by assumption) ?_
    case y_6_1 => (intro wq hSw; (try dsimp only at hSw); go_simp; first | done | with_reducible rfl)
    try simp only [Act.put, List.setIfInBounds_toArray, List.set_cons_zero, List.set_cons_succ]
    refine wpAnyH_take (i := 7) (oi := { dst := some 129, op := Go.Op.convert 35 9 (Go.Operand.tmp 128), type := 9, pos := "more.go:49", after := #[{ on := 6, ground := Go.Ground.data }, { on := 2, ground := Go.Ground.guard }], guard := some (2, true) }) (v := ?v_7_1) rfl (by kernel_rfl) (by kernel_rfl) (by kernel_rfl) (fun _ _ _ h => h) (Or.inl ⟨by rfl, ?y_7_1⟩) (by assumption) ?_
    case y_7_1 => (intro wq hSw; (try dsimp only at hSw); go_simp; first | done | with_reducible rfl)
    try simp only [Act.put, List.setIfInBounds_toArray, List.set_cons_zero, List.set_cons_succ]
    refine wpAnyH_ready (rs := [5, 8]) (by kernel_rfl) (by simp) ?_
    refine AllReadyH.cons (o := { dst := some 127, op := Go.Op.call { callee := Go.Callee.value (Go.Operand.func 23), args := #[Go.Operand.tmp 126], argTypes := #[36] }, type := 44, pos := "more.go:49", after := #[{ on := 4, ground := Go.Ground.data }, { on := 2, ground := Go.Ground.chain }, { on := 2, ground := Go.Ground.guard }], guard := some (2, true) }) rfl (fun KQ hKQ => ?_) (AllReadyH.cons (o := { dst := some 130, op := Go.Op.buildSlice 44 1 #[(0, Go.Operand.tmp 129)], type := 44, pos := "more.go:49", after := #[{ on := 7, ground := Go.Ground.data }, { on := 2, ground := Go.Ground.guard }], guard := some (2, true) }) rfl (fun KQ hKQ => ?_) AllReadyH.nil)
    · go_simp
      refine (CT.out _ (by assumption)).mono ?_
      rintro e y5 ⟨S5, c5', rfl, hO5, hB5⟩
      have hs5 := HSB.out _ y5 (by assumption) hB5
      go_wp2_with fail
      refine hKQ.out _ _ ?s_5a (fun hHeld5 => ?_)
      case s_5a => exact hs5
      clear hKQ KQ
      try simp only [Act.put, List.setIfInBounds_toArray, List.set_cons_zero, List.set_cons_succ]
      refine wpAnyH_ready (rs := [8]) (by kernel_rfl) (by simp) ?_
      refine AllReadyH.cons (o := { dst := some 130, op := Go.Op.buildSlice 44 1 #[(0, Go.Operand.tmp 129)], type := 44, pos := "more.go:49", after := #[{ on := 7, ground := Go.Ground.data }, { on := 2, ground := Go.Ground.guard }], guard := some (2, true) }) rfl (fun KQ hKQ => ?_) AllReadyH.nil
      go_simp
      refine hKQ.out _ _ ?s_8a (fun hHeld8 => ?_)
      case s_8a => exact HSB.out _ _ (by assumption) ((Below.refl _ _).alloc (Nat.le_refl _) _)
      clear hKQ KQ
      try simp only [Act.put, List.setIfInBounds_toArray, List.set_cons_zero, List.set_cons_succ]
      refine wpAnyH_ready (rs := [9]) (by kernel_rfl) (by simp) ?_
      refine AllReadyH.cons (o := { dst := some 131, op := Go.Op.call { callee := Go.Callee.builtin Go.Builtin.append, args := #[Go.Operand.tmp 127, Go.Operand.tmp 130], argTypes := #[44, 44] }, type := 44, pos := "more.go:49", after := #[{ on := 5, ground := Go.Ground.data }, { on := 8, ground := Go.Ground.data }, { on := 5, ground := Go.Ground.chain }, { on := 2, ground := Go.Ground.guard }], guard := some (2, true) }) rfl (fun KQ hKQ => ?_) AllReadyH.nil
      first | (refine step_append_g (by simp [Region.wanted, yielded]; done) _ _ 44 rfl _ _ rfl rfl _ (HAP.out _ _ _ _ _ (by assumption) (hO5.alloc _) (one_at _ 9 (strV m))) ?_) | (refine step_append_g (by simp [Region.wanted, yielded]; done) _ _ 44 rfl _ _ rfl rfl _ (HAP.out _ _ _ _ _ (by assumption) hO5 (one_drew w14 9 (strV m) hB5)) ?_)
      rintro v y9 ⟨A9, c9, rfl, hO9, hB9⟩
      have hs9 := HSB2.out _ y9 (by assumption) hB9
      refine hKQ.out _ _ ?s_9a (fun hHeld9 => ?_)
      case s_9a => exact hs9
      clear hKQ KQ
      try simp only [Act.put, List.setIfInBounds_toArray, List.set_cons_zero, List.set_cons_succ]
      refine wpAnyH_ready (rs := [10]) (by kernel_rfl) (by simp) ?_
      refine AllReadyH.cons (o := { dst := some 132, op := Go.Op.call { callee := Go.Callee.value (Go.Operand.func 25), args := #[Go.Operand.tmp 125, Go.Operand.tmp 131], argTypes := #[36, 44] }, type := 4, pos := "more.go:49", after := #[{ on := 3, ground := Go.Ground.data }, { on := 9, ground := Go.Ground.data }, { on := 9, ground := Go.Ground.chain }, { on := 2, ground := Go.Ground.guard }], guard := some (2, true) }) rfl (fun KQ hKQ => ?_) AllReadyH.nil
      go_simp
      refine (CA.out _ _ _ (by assumption) hO9).mono ?_
      rintro e y10 ⟨rfl, q10, rfl⟩
      have hs10 := HSQ.out _ q10 hs9
      go_wp2_with fail
      refine hKQ.out _ _ ?s_10a (fun hHeld10 => ?_)
      case s_10a => exact hs10
      clear hKQ KQ
      try simp only [Act.put, List.setIfInBounds_toArray, List.set_cons_zero, List.set_cons_succ]
      refine wpAnyH_take (i := 11) (oi := { dst := some 133, op := Go.Op.pick (Go.Operand.tmp 124) (Go.Operand.tmp 132) (Go.Operand.const (Go.Value.bool false)), type := 4, pos := "more.go:49", after := #[{ on := 2, ground := Go.Ground.data }, { on := 10, ground := Go.Ground.data }], guard := none }) (v := ?v_11a_1) rfl (by kernel_rfl) (by kernel_rfl) (by kernel_rfl) (fun _ _ _ h => h) (Or.inl ⟨by rfl, ?y_11a_1⟩) (by assumption) ?_
      case y_11a_1 => (intro wq hSw; (try dsimp only at hSw); go_simp; first | done | with_reducible rfl)
      try simp only [Act.put, List.setIfInBounds_toArray, List.set_cons_zero, List.set_cons_succ]
      refine wpAnyH_take (i := 12) (oi := { dst := some 12, op := Go.Op.assign (Go.Operand.tmp 133), type := 4, pos := "more.go:49", after := #[{ on := 11, ground := Go.Ground.data }, { on := 10, ground := Go.Ground.chain }, { on := 0, ground := Go.Ground.phase }, { on := 1, ground := Go.Ground.phase }, { on := 2, ground := Go.Ground.phase }, { on := 3, ground := Go.Ground.phase }, { on := 4, ground := Go.Ground.phase }, { on := 5, ground := Go.Ground.phase }, { on := 6, ground := Go.Ground.phase }, { on := 7, ground := Go.Ground.phase }, { on := 8, ground := Go.Ground.phase }, { on := 9, ground := Go.Ground.phase }, { on := 10, ground := Go.Ground.phase }, { on := 11, ground := Go.Ground.phase }], guard := none }) (v := ?v_12a_1) rfl (by kernel_rfl) (by kernel_rfl) (by kernel_rfl) (fun _ _ _ h => h) (Or.inl ⟨by rfl, ?y_12a_1⟩) (by assumption) ?_
      case y_12a_1 => (intro wq hSw; (try dsimp only at hSw); go_simp; first | done | with_reducible rfl)
      try simp only [Act.put, List.setIfInBounds_toArray, List.set_cons_zero, List.set_cons_succ]
      refine wpAnyH_done (by kernel_rfl) ?_ _
      go_wp2_with fail
      go_ret
      exact ⟨rfl, HFI.out _ hs10⟩
    · go_simp
      refine hKQ.out _ _ ?s_8b (fun hHeld8 => ?_)
      case s_8b => exact HSB.out _ _ (by assumption) ((Below.refl _ _).alloc (Nat.le_refl _) _)
      clear hKQ KQ
      try simp only [Act.put, List.setIfInBounds_toArray, List.set_cons_zero, List.set_cons_succ]
      refine wpAnyH_ready (rs := [5]) (by kernel_rfl) (by simp) ?_
      refine AllReadyH.cons (o := { dst := some 127, op := Go.Op.call { callee := Go.Callee.value (Go.Operand.func 23), args := #[Go.Operand.tmp 126], argTypes := #[36] }, type := 44, pos := "more.go:49", after := #[{ on := 4, ground := Go.Ground.data }, { on := 2, ground := Go.Ground.chain }, { on := 2, ground := Go.Ground.guard }], guard := some (2, true) }) rfl (fun KQ hKQ => ?_) AllReadyH.nil
      go_simp
      refine (CT.out _ (by assumption)).mono ?_
      rintro e y5 ⟨S5, c5', rfl, hO5, hB5⟩
      have hs5 := HSB.out _ y5 (by assumption) hB5
      go_wp2_with fail
      refine hKQ.out _ _ ?s_5b (fun hHeld5 => ?_)
      case s_5b => exact hs5
      clear hKQ KQ
      try simp only [Act.put, List.setIfInBounds_toArray, List.set_cons_zero, List.set_cons_succ]
      refine wpAnyH_ready (rs := [9]) (by kernel_rfl) (by simp) ?_
      refine AllReadyH.cons (o := { dst := some 131, op := Go.Op.call { callee := Go.Callee.builtin Go.Builtin.append, args := #[Go.Operand.tmp 127, Go.Operand.tmp 130], argTypes := #[44, 44] }, type := 44, pos := "more.go:49", after := #[{ on := 5, ground := Go.Ground.data }, { on := 8, ground := Go.Ground.data }, { on := 5, ground := Go.Ground.chain }, { on := 2, ground := Go.Ground.guard }], guard := some (2, true) }) rfl (fun KQ hKQ => ?_) AllReadyH.nil
      first | (refine step_append_g (by simp [Region.wanted, yielded]; done) _ _ 44 rfl _ _ rfl rfl _ (HAP.out _ _ _ _ _ (by assumption) (hO5.alloc _) (one_at _ 9 (strV m))) ?_) | (refine step_append_g (by simp [Region.wanted, yielded]; done) _ _ 44 rfl _ _ rfl rfl _ (HAP.out _ _ _ _ _ (by assumption) hO5 (one_drew w14 9 (strV m) hB5)) ?_)
      rintro v y9 ⟨A9, c9, rfl, hO9, hB9⟩
      have hs9 := HSB2.out _ y9 (by assumption) hB9
      refine hKQ.out _ _ ?s_9b (fun hHeld9 => ?_)
      case s_9b => exact hs9
      clear hKQ KQ
      try simp only [Act.put, List.setIfInBounds_toArray, List.set_cons_zero, List.set_cons_succ]
      refine wpAnyH_ready (rs := [10]) (by kernel_rfl) (by simp) ?_
      refine AllReadyH.cons (o := { dst := some 132, op := Go.Op.call { callee := Go.Callee.value (Go.Operand.func 25), args := #[Go.Operand.tmp 125, Go.Operand.tmp 131], argTypes := #[36, 44] }, type := 4, pos := "more.go:49", after := #[{ on := 3, ground := Go.Ground.data }, { on := 9, ground := Go.Ground.data }, { on := 9, ground := Go.Ground.chain }, { on := 2, ground := Go.Ground.guard }], guard := some (2, true) }) rfl (fun KQ hKQ => ?_) AllReadyH.nil
      go_simp
      refine (CA.out _ _ _ (by assumption) hO9).mono ?_
      rintro e y10 ⟨rfl, q10, rfl⟩
      have hs10 := HSQ.out _ q10 hs9
      go_wp2_with fail
      refine hKQ.out _ _ ?s_10b (fun hHeld10 => ?_)
      case s_10b => exact hs10
      clear hKQ KQ
      try simp only [Act.put, List.setIfInBounds_toArray, List.set_cons_zero, List.set_cons_succ]
      refine wpAnyH_take (i := 11) (oi := { dst := some 133, op := Go.Op.pick (Go.Operand.tmp 124) (Go.Operand.tmp 132) (Go.Operand.const (Go.Value.bool false)), type := 4, pos := "more.go:49", after := #[{ on := 2, ground := Go.Ground.data }, { on := 10, ground := Go.Ground.data }], guard := none }) (v := ?v_11b_1) rfl (by kernel_rfl) (by kernel_rfl) (by kernel_rfl) (fun _ _ _ h => h) (Or.inl ⟨by rfl, ?y_11b_1⟩) (by assumption) ?_
      case y_11b_1 => (intro wq hSw; (try dsimp only at hSw); go_simp; first | done | with_reducible rfl)
      try simp only [Act.put, List.setIfInBounds_toArray, List.set_cons_zero, List.set_cons_succ]
      refine wpAnyH_take (i := 12) (oi := { dst := some 12, op := Go.Op.assign (Go.Operand.tmp 133), type := 4, pos := "more.go:49", after := #[{ on := 11, ground := Go.Ground.data }, { on := 10, ground := Go.Ground.chain }, { on := 0, ground := Go.Ground.phase }, { on := 1, ground := Go.Ground.phase }, { on := 2, ground := Go.Ground.phase }, { on := 3, ground := Go.Ground.phase }, { on := 4, ground := Go.Ground.phase }, { on := 5, ground := Go.Ground.phase }, { on := 6, ground := Go.Ground.phase }, { on := 7, ground := Go.Ground.phase }, { on := 8, ground := Go.Ground.phase }, { on := 9, ground := Go.Ground.phase }, { on := 10, ground := Go.Ground.phase }, { on := 11, ground := Go.Ground.phase }], guard := none }) (v := ?v_12b_1) rfl (by kernel_rfl) (by kernel_rfl) (by kernel_rfl) (fun _ _ _ h => h) (Or.inl ⟨by rfl, ?y_12b_1⟩) (by assumption) ?_
      case y_12b_1 => (intro wq hSw; (try dsimp only at hSw); go_simp; first | done | with_reducible rfl)
      try simp only [Act.put, List.setIfInBounds_toArray, List.set_cons_zero, List.set_cons_succ]
      refine wpAnyH_done (by kernel_rfl) ?_ _
      go_wp2_with fail
      go_ret
      exact ⟨rfl, HFI.out _ hs10⟩
end Go.Proofs.Ytafdgibkhefplaa.law5
