/- What the program's own log's Rewrite comes to. Conditions: those that each theorem names. -/
import Derived.Test.YtafdgibkhefplaaWlM
namespace Go.Proofs.Ytafdgibkhefplaa.wal
open Go.RowKit Go.Proofs.Ytafdgibkhefplaa.kit Go.Proofs.Ytafdgibkhefplaa.nums Go.Proofs.Ytafdgibkhefplaa.ds Go.Proofs.Ytafdgibkhefplaa.disk Go.Proofs.Ytafdgibkhefplaa.ws Go.Proofs.Ytafdgibkhefplaa.rec_ Go.Proofs.Ytafdgibkhefplaa.bytes Go.Proofs.Ytafdgibkhefplaa.ofs
set_option linter.unusedVariables false

theorem rd_at {w W : World} {A : Option Addr} {n B : Nat} {l : List Int} (h : Rd w B A n l) (hk : ∀ b o, 0 < n → A = some ⟨b, o, none⟩ → W.heap[b]? = w.heap[b]? ∧ b < W.heap.size) : Rd W W.heap.size A n l :=
  ⟨h.1, fun hn => by
    obtain ⟨b, o, e, hlt, hc⟩ := h.2 hn
    exact ⟨b, o, e, (hk b o hn e).2, fun j hj => (World.cell?_of_block (a := ⟨b, o + j, none⟩) (hk b o hn e).1).trans (hc j hj)⟩⟩
set_option maxRecDepth 100000 in
set_option maxHeartbeats 2000000 in
theorem rewrite_in (p a : Nat) (X : WS) (D : DS) (fd : Nat → Prop) (w : World) (hb : Blk 60 w p (cellsW a X)) (hd : IsDisk w a D fd) (hap : ¬ fd p) (hD : D.Good) (hs : D.stepped ≤ 999000) (hp : D.powers ≤ 1000000) (hF : Fit X D)
    (A : Option Addr) (n c : Nat) (L : List (List Int)) (hR : RdS w w.heap.size A n L) (hY : ∀ r ∈ L, Byt r) (hsum : 9 * n + L.flatten.length ≤ 1000000000) :
    Calls Try.prog 22 #[.pointer (some ⟨p, 0, none⟩), .slice A n c] w (RetW w p a (fun k => k = p) fd (rewriteO X D L)) := by
  have HN := Lib.hid hR.len
  have hlife := hF.life
  have hg0 := hF.g0
  have hg1 := hF.g1
  have hfi := hF.file
  have H1 := Lib.hid (St.start hb hd hap)
  have CK := Lib.hid (check_any p a X D fd _ H1.out.blk H1.out.disk hD (by omega) hp hlife A n c L hR (by omega))
  have hf1 : (if X.file = -1 then 1 else X.file) = 1 - rwF X := by
    unfold rwF
    rcases hfi with h | h | h <;> rw [h] <;> rfl
  have hfi2 := rwF_in X
  have HO := Lib.hid (show rewriteO X D L = if mayE X D L ≠ 0 then ⟨mayE X D L, X, D⟩
    else if 4611686018427387904 ≤ X.gen + 1 then ⟨8, X, D⟩
    else if D.clearE (rwF X) ≠ 0 then halt X (D.clearS (rwF X)) (D.clearE (rwF X))
    else if (D.clearS (rwF X)).appE (rwF X) (rwB (X.gen + 1) L) ≠ 0 then halt X ((D.clearS (rwF X)).appS (rwF X) (rwB (X.gen + 1) L)) ((D.clearS (rwF X)).appE (rwF X) (rwB (X.gen + 1) L))
    else if ((D.clearS (rwF X)).appS (rwF X) (rwB (X.gen + 1) L)).syncE (rwF X) ≠ 0 then halt X (((D.clearS (rwF X)).appS (rwF X) (rwB (X.gen + 1) L)).syncS (rwF X)) (((D.clearS (rwF X)).appS (rwF X) (rwB (X.gen + 1) L)).syncE (rwF X))
    else ⟨0, { X with file := rwF X, gen := X.gen + 1, recs := L, size := (rwB (X.gen + 1) L).length }, ((D.clearS (rwF X)).appS (rwF X) (rwB (X.gen + 1) L)).syncS (rwF X)⟩ from rfl)
  have HR1 := Lib.hid (fun q => show RdS (w.drewN q) (w.drewN q).heap.size A n L from hR)
  have n1 := DS.Near.clear D (rwF X)
  have n2 := DS.Near.app (D.clearS (rwF X)) (rwF X) (rwB (X.gen + 1) L)
  unfold DS.Near at n1 n2
  have g1 := hD.clear (f := rwF X) (by omega)
  have g2 := g1.app (f := rwF X) (by omega) (rwB_byt (g := X.gen + 1) hY)
  have p1 := clear_powers D (rwF X)
  have p2 := app_powers (D.clearS (rwF X)) (rwF X) (rwB (X.gen + 1) L)
  have HA := Lib.hid (show ∀ B, Whole (X.gen + 1) L B → (D.clearS (rwF X)).appE (rwF X) B = (D.clearS (rwF X)).appE (rwF X) (rwB (X.gen + 1) L) ∧ (D.clearS (rwF X)).appS (rwF X) B = (D.clearS (rwF X)).appS (rwF X) (rwB (X.gen + 1) L) ∧ ((D.clearS (rwF X)).appE (rwF X) (rwB (X.gen + 1) L) = 0 → B.length = (rwB (X.gen + 1) L).length ∧ B.length ≤ 4194304) from fun B hB => by
    rcases hB.2.2 with h | h
    · rw [h]
      refine ⟨rfl, rfl, fun e => ⟨rfl, ?_⟩⟩
      have := (app_ok e).2.2.2.1
      omega
    · obtain ⟨e1, e2⟩ := app_same (D := D.clearS (rwF X)) (f := rwF X) h.1 h.2
      refine ⟨e1, e2, fun e => ?_⟩
      have := (app_ok e).2.2.2.1
      omega)
  have hln : L.length = n := HN.out
  have CL := Lib.hid (fun (z : World) (h : IsDisk z a D fd) => disk.clear_any a D fd z h hD (by omega) hp (rwF X))
  have CA := Lib.hid (fun (z : World) (fd' : Nat → Prop) (h : IsDisk z a (D.clearS (rwF X)) fd') (A : Option Addr) (m c : Nat) (l : List Int) (hR : Rd z z.heap.size A m l) (hY : Byt l) (hn : m ≤ 1099511627776) (hnc : m ≤ c) (hcm : c ≤ maxLen) hA => disk.append_any a (D.clearS (rwF X)) fd' z h g1 (by omega) (by omega) (rwF X) A m c l hR hY hn hnc hcm hA)
  have CS := Lib.hid (fun (z : World) (fd' : Nat → Prop) (h : IsDisk z a ((D.clearS (rwF X)).appS (rwF X) (rwB (X.gen + 1) L)) fd') => disk.sync_any a ((D.clearS (rwF X)).appS (rwF X) (rwB (X.gen + 1) L)) fd' z h g2 (by omega) (by omega) (rwF X))
  clear hb hd n1 n2 g1 g2 p1 p2
  have hw1 : (1 : Int) - (1 - rwF X) = rwF X := by omega
  go_enter Try.func22, Try.ntmps22
  go_wp2_with fail
  refine CK.out.mono ?_
  clear CK
  rintro e w2 ⟨rfl, q, hw2⟩
  have H2 : Hid (St w p a fd w2 X D fd) := by rw [hw2]; exact H1.out.drewN q
  have hR2 : RdS w2 w2.heap.size A n L := by rw [hw2]; exact hR
  clear hw2 H1 hR
  by_cases hm0 : mayE X D L ≠ 0
  · have HO2 := Lib.hid (HO.out.trans (if_pos hm0))
    generalize mayE X D L = x at *
    have hne : (x != 0) = true := by simpa using hm0
    clear HO hm0
    go_wp2_with fail
    go_ret
    rw [HO2.out]
    exact H2.out.ret
  have HO2 := Lib.hid (HO.out.trans (if_neg hm0))
  have hm1 : mayE X D L = 0 := by simpa using hm0
  have hml := (may_ok hm1).2
  rw [hm1]
  have d0 := c0 H2.out.blk
  have d3 := c3 H2.out.blk
  have d4 := c4 H2.out.blk
  rw [hf1] at d3
  clear HO hm0 hm1
  by_cases hbig : 4611686018427387904 ≤ X.gen + 1
  · have HO3 := Lib.hid (HO2.out.trans (if_pos hbig))
    have hge : X.gen = 4611686018427387903 := by omega
    rw [hge] at d4
    clear HO2
    go_wp2_with fail
    go_ret
    rw [HO3.out]
    exact H2.out.ret
  have HO3 := Lib.hid (HO2.out.trans (if_neg hbig))
  have hge : (X.gen == 4611686018427387903) = false := by simp; omega
  have hwg : IntKind.u64.wrap (X.gen + 1) = X.gen + 1 := IntWalk.u64_in _ ⟨by omega, by omega⟩
  clear HO2
  go_wp2_with fail
  go_quiet (fail)
  go_wp2_with fail
  have H3 := Lib.hid (H2.out.drewN nq)
  have hR3 : RdS (w2.drewN nq) (w2.drewN nq).heap.size A n L := hR2
  clear hR2 H2 d0 d3 d4
  generalize w2.drewN nq = w3 at *
  have C := Lib.hid (whole_any (X.gen + 1) A n c L w3 hR3 hY hml (by omega) (by omega) hsum)
  clear hR3 hY hml
  go_wp2_with fail
  refine C.out.mono ?_
  clear C
  rintro e w4 ⟨A4, m4, c4', B, rfl, hl4, hO4, hB4, hW⟩
  obtain ⟨e1, e2, e3⟩ := HA.out B hW
  have hWB := hW.1
  have hWl := hW.2.1
  have H4 := Lib.hid (H3.out.below hB4)
  have hc4 := hO4.caps hl4
  have d0 := c0 H4.out.blk
  have hOK : Hid (0 < m4 → ∃ g, A4 = some ⟨g, 0, none⟩ ∧ w3.heap.size ≤ g ∧ g < w4.heap.size) := fun h0 => by
    obtain ⟨g, hg, hge⟩ := hO4.form h0
    exact ⟨g, hg, hge, (hO4.lt g (by rw [hg]; rfl)).2⟩
  have C := Lib.hid (CL.out w4 H4.out.disk)
  have hRB := Lib.hid (hO4.rd hl4)
  have HB4 := Lib.hid hB4
  have HW := Lib.hid hW
  clear hO4 hB4 HA hW CL
  generalize (D.clearS (rwF X)).appE (rwF X) (rwB (X.gen + 1) L) = x2 at *
  generalize (D.clearS (rwF X)).appS (rwF X) (rwB (X.gen + 1) L) = D2 at *
  generalize D.clearE (rwF X) = x1 at *
  generalize D.clearS (rwF X) = D1 at *
  generalize D2.syncE (rwF X) = x3 at *
  generalize D2.syncS (rwF X) = D3 at *
  go_wp2_with fail
  refine C.out.mono ?_
  clear C
  rintro e w5 ⟨fd5, rfl, hd5, hC5⟩
  have hlt3 := fun k hk => H3.out.disk.lt k hk
  have hnew5 := hC5.new
  have hR5 : Rd w5 w5.heap.size A4 m4 B := rd_at hRB.out (fun b o h0 e => by
    obtain ⟨g, hg, g1, g2⟩ := hOK.out h0
    cases hg.symm.trans e
    exact ⟨hC5.block b g2 (fun hk => by have := hlt3 b hk; omega), Nat.lt_of_lt_of_le g2 hC5.size⟩)
  have hnB : 0 < m4 → ∀ b o, A4 = some ⟨b, o, none⟩ → ¬ fd5 b := fun h0 b o e hk => by
    obtain ⟨g, hg, g1, g2⟩ := hOK.out h0
    cases hg.symm.trans e
    rcases hnew5 b hk with h | h
    · have := hlt3 b h; omega
    · omega
  have H5 := Lib.hid (H4.out.disk_ hd5 hC5)
  clear H3 H4 hRB hd5 hC5 hnew5 hlt3 d0 HB4
  by_cases hx1 : x1 ≠ 0
  · have HO4 := Lib.hid (HO3.out.trans (if_pos hx1))
    have hne : (x1 != 0) = true := by simpa using hx1
    have C := Lib.hid (fail_any p a X x1 w5 H5.out.blk)
    clear HO3 CA CS
    go_wp2_with fail
    refine C.out.mono ?_
    clear C
    rintro e w6 ⟨rfl, hb6, hG6⟩
    go_wp2_with fail
    go_ret
    rw [HO4.out]
    exact (H5.out.self hG6 hb6).ret
  have HO4 := Lib.hid (HO3.out.trans (if_neg hx1))
  obtain rfl : x1 = 0 := by simpa using hx1
  have d0 := c0 H5.out.blk
  have C := Lib.hid (CA.out w5 fd5 H5.out.disk A4 m4 c4' B hR5 hWB (by omega) hc4.1 hc4.2 hnB)
  rw [e1, e2] at C
  clear HO3 CA hx1 hR5 hnB
  go_wp2_with fail
  refine C.out.mono ?_
  clear C
  rintro e w6 ⟨fd6, rfl, hd6, hC6⟩
  have H6 := Lib.hid (H5.out.disk_ hd6 hC6)
  clear H5 hd6 hC6 d0
  by_cases hx2 : x2 ≠ 0
  · have HO5 := Lib.hid (HO4.out.trans (if_pos hx2))
    have hne : (x2 != 0) = true := by simpa using hx2
    have C := Lib.hid (fail_any p a X x2 w6 H6.out.blk)
    clear HO4 CS
    go_wp2_with fail
    refine C.out.mono ?_
    clear C
    rintro e w7 ⟨rfl, hb7, hG7⟩
    go_wp2_with fail
    go_ret
    rw [HO5.out]
    exact (H6.out.self hG7 hb7).ret
  have HO5 := Lib.hid (HO4.out.trans (if_neg hx2))
  obtain rfl : x2 = 0 := by simpa using hx2
  obtain ⟨e4, e5⟩ := e3 rfl
  have d0 := c0 H6.out.blk
  have C := Lib.hid (CS.out w6 fd6 H6.out.disk)
  clear HO4 CS hx2 e1 e2 e3
  go_wp2_with fail
  refine C.out.mono ?_
  clear C
  rintro e w7 ⟨fd7, rfl, hd7, hC7⟩
  have H7 := Lib.hid (H6.out.disk_ hd7 hC7)
  clear H6 hd7 hC7 d0
  by_cases hx3 : x3 ≠ 0
  · have HO6 := Lib.hid (HO5.out.trans (if_pos hx3))
    have hne : (x3 != 0) = true := by simpa using hx3
    have C := Lib.hid (fail_any p a X x3 w7 H7.out.blk)
    clear HO5
    go_wp2_with fail
    refine C.out.mono ?_
    clear C
    rintro e w8 ⟨rfl, hb8, hG8⟩
    go_wp2_with fail
    go_ret
    rw [HO6.out]
    exact (H7.out.self hG8 hb8).ret
  have HO6 := Lib.hid (HO5.out.trans (if_neg hx3))
  obtain rfl : x3 = 0 := by simpa using hx3
  have hfr := fun i => H7.out.blk.frozen i
  have d3 := c3 H7.out.blk
  have d4 := c4 H7.out.blk
  have d5 := c5 H7.out.blk
  have d6 := c6 H7.out.blk
  have hrw : rwF X ≠ -1 := by omega
  have HS := Lib.hid (show St w p a fd ((((w7.setCell ⟨p, 3, none⟩ (.int .i64 (rwF X))).setCell ⟨p, 4, none⟩ (.int .u64 (X.gen + 1))).setCell ⟨p, 5, none⟩ (.int .i64 n)).setCell ⟨p, 6, none⟩ (.int .i64 m4)) { X with file := rwF X, gen := X.gen + 1, recs := L, size := (rwB (X.gen + 1) L).length } D3 fd7 from
    H7.out.self (grown_more (grown_more (grown_more (grown_more (World.grownBy.refl _ _) _ _) _ _) _ _) _ _) (by
      have := (((H7.out.blk.set_ 3 (.int .i64 (rwF X))).set_ 4 (.int .u64 (X.gen + 1))).set_ 5 (.int .i64 n)).set_ 6 (.int .i64 m4)
      rw [show cellsW a { X with file := rwF X, gen := X.gen + 1, recs := L, size := (rwB (X.gen + 1) L).length } = ((((cellsW a X).set 3 (.int .i64 (rwF X))).set 4 (.int .u64 (X.gen + 1))).set 5 (.int .i64 n)).set 6 (.int .i64 m4) by
        unfold cellsW
        rw [← e4, hl4]
        simp [hrw, hln]]
      exact this))
  clear HO5 hx3
  go_wp2_with fail
  go_ret
  rw [HO6.out]
  exact HS.out.ret
end Go.Proofs.Ytafdgibkhefplaa.wal
