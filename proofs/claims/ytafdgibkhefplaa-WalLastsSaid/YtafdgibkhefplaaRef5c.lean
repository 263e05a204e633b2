/- What the document's log (antipoderef5) comes to: Rewrite. Conditions: the disk is a good one, the log lies on it, the records are no more than a disk could hold. -/
import Derived.Test.YtafdgibkhefplaaRef5
import Derived.Deep.Cut
import Derived.Test.YtafdgibkhefplaaKitS
import Derived.Lib.SmallJoins
namespace Go.Proofs.Ytafdgibkhefplaa.ref5
open Go.RowKit Go.Proofs.Ytafdgibkhefplaa.kit Go.Proofs.Ytafdgibkhefplaa.nums Go.Proofs.Ytafdgibkhefplaa.ds Go.Proofs.Ytafdgibkhefplaa.rec_ Go.Proofs.Ytafdgibkhefplaa.ws Go.Proofs.Ytafdgibkhefplaa.ref4 Go.Proofs.Ytafdgibkhefplaa.bytes
set_option linter.unusedVariables false

theorem rd_lit (w : World) (E : TypeId) (l : List Int) (n : Nat) (fr : Nat × Nat) (hn : l.length = n) : Rd (w.alloc (.cells (u8s l).toArray E fr)) (w.heap.size + 1) (some ⟨w.heap.size, 0, none⟩) n l := by
  refine ⟨hn, fun _ => ⟨_, 0, rfl, by omega, fun j hj => ?_⟩⟩
  rw [World.cell?_alloc_mark, Nat.zero_add, List.getElem?_toArray, u8s_getElem? l j (by omega)]
theorem eight_any (v : Int) (w : World) (h0 : 0 ≤ v) (h1 : v ≤ 18446744073709551615) :
    Calls Try.prog 60 #[.int .u64 v] w (RetL 5 w 8 (beB v 8)) := by
  have C := Lib.hid (fun w => rput_any none 0 0 [] v 8 w (Rd.nil _ _ _) (by omega) h0 h1 (by omega) (by omega))
  have HZ : Hid (v / 2 ^ (8 * 8) = 0) := Int.ediv_eq_zero_of_lt h0 (by omega)
  go_enter Try.func60, Try.ntmps60
  go_wp2_with fail
  refine (C.out _).mono ?_
  rintro e w2 (⟨_, A, c, rfl, hl, hO, hB⟩ | ⟨h, _⟩)
  · go_wp2_with fail
    go_ret
    exact ⟨A, c, rfl, hl, hO, hB⟩
  · exact absurd HZ.out h
/-- The log's own block and the disk's. -/
def fpD (p g : Nat) (k : Nat) : Prop := k = p ∨ k = g
theorem Chg.wide {w w' : World} {p g : Nat} {v : Value} (h : Chg (fpD p g) (fpD p g) w w') : Chg (fpW p g v) (fpW p g v) w w' :=
  ⟨h.os, h.tape, h.output, h.size, fun k hk hn => h.block k hk (fun hd => hn (hd.elim .inl (fun e => .inr (.inl e)))), fun k hk => .inl hk⟩
theorem Chg.disk {w w' : World} {p g : Nat} (h : w.grownBy w' (some g)) : Chg (fpD p g) (fpD p g) w w' := Chg.grown h (fun k hk => .inr (Option.some.inj hk).symm) (fun k hk => .inl hk)
theorem Chg.log {w w' : World} {p g : Nat} (h : w.grownBy w' (some p)) : Chg (fpD p g) (fpD p g) w w' := Chg.grown h (fun k hk => .inl (Option.some.inj hk).symm) (fun k hk => .inl hk)
/-- What an argument reads as stays. -/
theorem rdv_chg {w w' : World} {p g n : Nat} {A : Option Addr} {xs : List Value} (h : RdV w w.heap.size A n xs) (hA : 0 < n → ∀ b o, A = some ⟨b, o, none⟩ → b ≠ p ∧ b ≠ g) (hc : Chg (fpD p g) (fpD p g) w w') : RdV w' w'.heap.size A n xs :=
  ⟨h.1, fun hn => by
    obtain ⟨b, o, e, hb, hcell⟩ := h.2 hn
    obtain ⟨h1, h2⟩ := hA hn b o e
    refine ⟨b, o, e, Nat.lt_of_lt_of_le hb hc.size, fun j hj => ?_⟩
    rw [World.cell?_of_block (a := ⟨b, o + j, none⟩) (hc.block b hb (fun k => k.elim h1 h2))]
    exact hcell j hj⟩
/-- The end of a rewrite. -/
theorem rw_end {w W w7 : World} {p g base : Nat} {X : WS} {D : DS} {v : Value} {L : List (List Int)} {f gen : Int} {sz : Nat} {A7 : Option Addr} {n c7 : Nat} (h : RefW W p g base X D v) (hc : Chg (fpD p g) (fpD p g) w W) (hb : base ≤ w.heap.size)
    (hO : OwnV 9 w7 W.heap.size (.slice A7 n c7) ([] ++ L.map strV)) (hB : Below W.heap.size (W.drew.alloc (.cells #[] 9)) w7) :
    RetX w p g base v ⟨0, { X with file := f, gen := gen, recs := L, size := sz }, D⟩ (.returned (.int .i64 0)) (((w7.setCell ⟨p, 1, none⟩ (.int .i64 f)).setCell ⟨p, 2, none⟩ (.int .u64 gen)).setCell ⟨p, 3, none⟩ (.slice A7 n c7)) := by
  have hBW : Below W.heap.size W w7 := Below.trans (((Below.refl _ _).drew).alloc (Nat.le_refl _) _) hB
  have hG : w7.grownBy (((w7.setCell ⟨p, 1, none⟩ (.int .i64 f)).setCell ⟨p, 2, none⟩ (.int .u64 gen)).setCell ⟨p, 3, none⟩ (.slice A7 n c7)) (some p) := grown_trans (grown_trans (grown_set _ _ _ _) (grown_set _ _ _ _)) (grown_set _ _ _ _)
  have hb7 : Blk 80 w7 p (rwV X g v) := Blk.below h.blk hBW h.blk.lt
  have hr7 : IsRef w7 g D := h.ref.below hBW
  rw [List.nil_append] at hO
  have hnp : (Value.slice A7 n c7).ownBlock ≠ some p := fun e => by
    have := (hO.lt p e).1
    have := h.blk.lt
    omega
  refine ⟨.slice A7 n c7, rfl, ⟨((hb7.set_ 1 _).set_ 2 _).set_ 3 _, (hO.grown hG (fun k hk e => hnp (by rw [hk, ← e]))).more (by have := hc.size; omega), hr7.keep (hG.block g hr7.lt (by intro e; exact h.pg (by simpa using e.symm)))⟩, ?_⟩
  have hst : Chg (fpW p g v) (fpW p g (.slice A7 n c7)) W w7 := ⟨hBW.os, hBW.tape, hBW.output, hBW.size, fun k hk _ => hBW.block k hk, fun k hk => by
    rcases hk with hk | hk | hk
    · exact .inl (.inl hk)
    · exact .inl (.inr (.inl hk))
    · exact .inr (hO.lt k hk).1⟩
  exact (hc.wide.trans hst).trans (Chg.grown hG (fun k hk => .inl (Option.some.inj hk).symm) (fun k hk => .inl hk))
theorem rwB_more (g : Int) (L : List (List Int)) (j : Nat) (r : List Int) (h : L[j]? = some r) : (recB (71 :: beB g 8) ++ ((L.take j).map recR).flatten) ++ recB (82 :: r) = recB (71 :: beB g 8) ++ ((L.take (j + 1)).map recR).flatten := by
  rw [List.take_add_one, h]
  simp [recR]
theorem part_len (g : Int) (L : List (List Int)) (j : Nat) : (recB (71 :: beB g 8) ++ ((L.take j).map recR).flatten).length ≤ 17 + 9 * L.length + L.flatten.length := by
  rw [List.length_append, recB_length, flat_len, List.length_cons, beB_length]
  have h1 : (L.take j).length ≤ L.length := by rw [List.length_take]; omega
  have h2 : (L.take j).flatten.length ≤ L.flatten.length := by
    have := congrArg List.length (congrArg List.flatten (List.take_append_drop j L))
    rw [List.flatten_append, List.length_append] at this
    omega
  omega
set_option maxRecDepth 100000 in
set_option maxHeartbeats 4000000 in
theorem rewrite_any (p g base : Nat) (X : WS) (D : DS) (v : Value) (w : World) (h : RefW w p g base X D v) (hD : D.Good) (hs : D.stepped ≤ 999000) (hbs : base ≤ w.heap.size) (hF : Fit X D) (A : Option Addr) (n c : Nat) (L : List (List Int)) (hR : RdV w w.heap.size A n (L.map strV)) (hA : 0 < n → ∀ b o, A = some ⟨b, o, none⟩ → b ≠ p ∧ b ≠ g) (hL : ∀ r ∈ L, Byt r) (hsum : 9 * n + L.flatten.length ≤ 1000000000) :
    Calls Try.prog 43 #[.pointer (some ⟨p, 0, none⟩), .slice A n c] w (RetX w p g base v (rewriteO X D L)) := by
  have hLn : L.length = n := by have := hR.1; rwa [List.length_map] at this
  have hLs : ∀ r ∈ L, r.length ≤ 1000000000 := fun r hr => by
    have : r.length ≤ L.flatten.length := by
      obtain ⟨i, hi, rfl⟩ := List.getElem_of_mem hr
      have h1 := congrArg List.length (congrArg List.flatten (List.take_append_drop i L))
      rw [List.drop_eq_getElem_cons hi, List.flatten_append, List.flatten_cons, List.length_append, List.length_append] at h1
      omega
    omega
  have C := Lib.hid (may_any p g base X D v w h A n c L w.heap.size hR (by omega) (fun r hr => by have := hLs r hr; omega))
  have HB := Lib.hid h
  have HRd := Lib.hid (show ∀ W, Chg (fpD p g) (fpD p g) w W → RdV W W.heap.size A n (L.map strV) from fun W hc => rdv_chg hR hA hc)
  have HLn := Lib.hid hLn
  have HLs := Lib.hid hLs
  have HL := Lib.hid hL
  have hg0 := hF.g0
  have hg1 := hF.g1
  have n1 := DS.Near.clear D (rwF X)
  unfold DS.Near at n1
  have gd1 := hD.clear (f := rwF X) (by omega)
  have n2 := DS.Near.app (D.clearS (rwF X)) (rwF X) (rwB (X.gen + 1) L)
  unfold DS.Near at n2
  have gd2 := gd1.app (f := rwF X) (by omega) (rwB_byt (g := X.gen + 1) hL)
  have C2 := Lib.hid (fun (W : World) (hW : RefW W p g base X D v) => ref4.clear_any g D (rwF X) W hW.ref hD (by omega))
  have C3 := Lib.hid (fun (W : World) (hW : RefW W p g base X (D.clearS (rwF X)) v) => fails_any p g base X (D.clearS (rwF X)) v W hW (D.clearE (rwF X)))
  have C5 := Lib.hid (fun (W : World) (hW : RefW W p g base X (D.clearS (rwF X)) v) (hl : (rwB (X.gen + 1) L).length ≤ 1099511627776) => ref4.append_any g (D.clearS (rwF X)) (rwF X) (rwB (X.gen + 1) L) W hW.ref gd1 (by omega) hl)
  have C8 := Lib.hid (fun (W : World) (hW : RefW W p g base X ((D.clearS (rwF X)).appS (rwF X) (rwB (X.gen + 1) L)) v) => fails_any p g base X ((D.clearS (rwF X)).appS (rwF X) (rwB (X.gen + 1) L)) v W hW ((D.clearS (rwF X)).appE (rwF X) (rwB (X.gen + 1) L)))
  have C9 := Lib.hid (fun (W : World) (hW : RefW W p g base X ((D.clearS (rwF X)).appS (rwF X) (rwB (X.gen + 1) L)) v) => ref4.sync_any g ((D.clearS (rwF X)).appS (rwF X) (rwB (X.gen + 1) L)) (rwF X) W hW.ref gd2 (by omega))
  have C10 := Lib.hid (fun (W : World) (hW : RefW W p g base X (((D.clearS (rwF X)).appS (rwF X) (rwB (X.gen + 1) L)).syncS (rwF X)) v) => fails_any p g base X (((D.clearS (rwF X)).appS (rwF X) (rwB (X.gen + 1) L)).syncS (rwF X)) v W hW (((D.clearS (rwF X)).appS (rwF X) (rwB (X.gen + 1) L)).syncE (rwF X)))
  have HO := Lib.hid (rewriteO.eq_1 X D L)
  have HX := Lib.hid hF
  clear h hR hA n1 n2 hLs hL
  obtain ⟨x, hx⟩ : ∃ x, mayE X D L = x := ⟨_, rfl⟩
  rw [hx] at C HO
  by_cases hm : x ≠ 0
  · have HO2 := Lib.hid (show rewriteO X D L = ⟨x, X, D⟩ by rw [HO.out, if_pos hm])
    have hne : (x != 0) = true := by simpa using hm
    clear hx hm C2 C3 C5 C8 C9 C10 HO gd1 gd2
    go_enter Try.func43, Try.ntmps43
    go_wp2_with fail
    refine C.out.mono ?_
    rintro e w1 ⟨rfl, q, rfl⟩
    go_wp2_with fail
    go_ret
    rw [HO2.out]
    exact ⟨v, rfl, HB.out.drewN q, chg_drewN _ _ _⟩
  have HM := Lib.hid hx
  obtain rfl : x = 0 := by simpa using hm
  have HO2 := Lib.hid (HO.out.trans (if_neg (by simp)))
  clear HO hm hx
  have hgw : IntKind.u64.wrap (X.gen + 1) = X.gen + 1 := IntWalk.u64_in _ ⟨by omega, by omega⟩
  have d0 := HB.out.c0
  have d1 := HB.out.c1
  have d2 := HB.out.c2
  by_cases hbig : 4611686018427387904 ≤ X.gen + 1
  · have HO3 := Lib.hid (HO2.out.trans (if_pos hbig))
    clear C2 C3 C5 C8 C9 C10 HO2 gd1 gd2
    go_enter Try.func43, Try.ntmps43
    go_wp2_with fail
    refine C.out.mono ?_
    rintro e w1 ⟨rfl, q, rfl⟩
    go_wp2_with fail
    go_ret
    rw [HO3.out]
    exact ⟨v, rfl, HB.out.drewN q, chg_drewN _ _ _⟩
  have HO3 := Lib.hid (HO2.out.trans (if_neg hbig))
  clear HO2
  have hge : ¬ 4611686018427387904 ≤ X.gen + 1 := hbig
  have hfv : (X.file = 0 ∧ rwF X = 1) ∨ (¬ X.file = 0 ∧ rwF X = 0) := by
    unfold rwF
    by_cases h0 : X.file = 0
    · rw [if_pos h0]; exact .inl ⟨h0, rfl⟩
    · rw [if_neg h0]; exact .inr ⟨h0, rfl⟩
  have hBlen := rwB_len (X.gen + 1) L
  have hBx := Lib.hid (show rwB (X.gen + 1) L = (recB (71 :: beB (X.gen + 1) 8) ++ ((L.take n).map recR).flatten) ++ recB [69] by unfold rwB; rw [List.take_of_length_le (by omega), List.append_assoc])
  have hYG : Byt (71 :: beB (X.gen + 1) 8) := (Byt.one (by decide) (by decide) : Byt [71]).append (beB_byt _ _)
  generalize rwF X = f at *
  generalize D.clearE f = x1 at *
  generalize D.clearS f = D1 at *
  generalize rwB (X.gen + 1) L = Bs at *
  generalize D1.appE f Bs = x2 at *
  generalize D1.appS f Bs = D2 at *
  generalize D2.syncE f = x3 at *
  generalize D2.syncS f = D3 at *
  go_enter Try.func43, Try.ntmps43
  go_wp2_with fail
  refine C.out.mono ?_
  rintro e w1 ⟨rfl, q, hw1⟩
  have H1 := Lib.hid (show RefW w1 p g base X D v by rw [hw1]; exact HB.out.drewN q)
  have HC1 := Lib.hid (show Chg (fpD p g) (fpD p g) w w1 by rw [hw1]; exact chg_drewN _ _ _)
  clear hw1 C d0 d1 d2
  have d0 := H1.out.c0
  have d1 := H1.out.c1
  have d2 := H1.out.c2
  go_upto_if 26 with (fail)
  go_cut [6] from 10 (fun s wx => s = .int .i64 f ∧ wx = w1)
  case first =>
    rcases hfv with ⟨h0, rfl⟩ | ⟨h0, rfl⟩
    · rw [h0] at *
      go_wp2_with fail
      go_meet
      case rel => exact ⟨rfl, rfl⟩
    · have h0' : (X.file == 0) = false := by simpa using h0
      go_wp2_with fail
      go_meet
      case rel => exact ⟨rfl, rfl⟩
  case rest =>
    obtain ⟨rfl, rfl⟩ := hcut
    have hbz : base ≤ w.heap.size := hbs
    go_wp2_with fail
    refine (C2.out wc H1.out).mono ?_
    rintro e w2 ⟨rfl, hr2, hG2⟩
    have H2 := Lib.hid (H1.out.disk hr2 hG2)
    go_wp2_with fail
    refine (C3.out w2 H2.out).mono ?_
    rintro e w3 ⟨rfl, hf3, hG3⟩
    by_cases hx1 : x1 ≠ 0
    · have HO4 := Lib.hid (HO3.out.trans (if_pos hx1))
      have hne : (x1 != 0) = true := by simpa using hx1
      clear HO3 C2 C3 C5 C8 C9 C10 HRd
      have HX1 := Lib.hid hx1
      clear hx1
      go_wp2_with fail
      go_ret
      rw [HO4.out]
      exact RetX.failed HC1.out.wide hG2 HX1.out hf3 hG3
    have HO4 := Lib.hid (HO3.out.trans (if_neg hx1))
    obtain rfl : x1 = 0 := by simpa using hx1
    rw [if_pos rfl] at hf3
    have H3 := Lib.hid hf3
    have HC3 := Lib.hid ((HC1.out.trans (Chg.disk hG2)).trans (Chg.log hG3))
    have d2 := H3.out.c2
    clear HO3 C2 C3 hx1 hf3 hG2 hG3 hr2 H2 H1 HC1 d0 d1
    have hOl : Rd (w3.alloc (.cells #[.int .u8 71] 5 (1, 2))) (w3.heap.size + 1) (some ⟨w3.heap.size, 0, none⟩) 1 [71] := rd_lit w3 5 [71] 1 (1, 2) rfl
    have hBl : Below w3.heap.size w3 (w3.alloc (.cells #[.int .u8 71] 5 (1, 2))) := (Below.refl _ _).alloc (Nat.le_refl _) _
    have hsl1 : (w3.alloc (.cells #[.int .u8 71] 5 (1, 2))).heap.size = w3.heap.size + 1 := by simp
    have d2' : (w3.alloc (.cells #[.int .u8 71] 5 (1, 2))).cell? ⟨p, 2, none⟩ = some (.int .u64 X.gen) := (H3.out.below hBl).c2
    have kc := fun (w : World) (C : Array Value) (n c g : Nat) (hg : g = w.heap.size) => Joins.run_convert_bytes_const_at (P := Try.prog) w 35 5 C n c g hg Try.underlying35 Try.underlying5
    have CE := Lib.hid (fun W => eight_any (X.gen + 1) W (by omega) (by omega))
    go_wp2_with fail
    refine (CE.out _).mono ?_
    rintro e w4 ⟨A4, c4, rfl, hl4, hO4, hB4⟩
    have hOl4 : Rd w4 w4.heap.size (some ⟨w3.heap.size, 0, none⟩) 1 [71] := (hOl.more (Nat.le_of_eq hsl1.symm)).on hB4 hB4.size
    have hs4 : w3.heap.size ≤ w4.heap.size := Nat.le_trans hBl.size hB4.size
    have hR4 := hO4.rd hl4
    have HB4 := Lib.hid (hBl.trans (hB4.mono hBl.size))
    clear hOl d2' hO4
    go_wp2_with (at_builtin; with_reducible refine wpList_append_full rfl (.tmp 40) (.tmp 46) 35 rfl 5 Try.underlying35 info5 _ 1 _ [71] rfl hOl4 _ A4 8 c4 _ rfl hR4 (by omega) (by omega) ?_)
    intro A5 c5 w5 hO5 hB5
    have hl5 : (([71] : List Int) ++ beB (X.gen + 1) 8).length = 9 := by simp [beB_length]
    have hc5 := hO5.caps hl5
    have C6 := Lib.hid (ref3.put3_any none 0 0 [] A5 9 c5 (71 :: beB (X.gen + 1) 8) w5 (Rd.nil _ _ _) (hO5.rd hl5) hYG (by omega) (by omega) hc5.1 hc5.2)
    have HB5 := Lib.hid (HB4.out.trans (hB5.mono hs4))
    clear hOl4 hO5 hB4 hB5 hl4 hR4 hsl1
    go_wp2_with fail
    refine C6.out.mono ?_
    rintro e w6 ⟨A6, c6, rfl, hl6, hO6, hB6⟩
    rw [List.nil_append] at hl6 hO6
    have HB6 := Lib.hid (HB5.out.trans (hB6.mono HB5.out.size))
    have hO6' : Own 5 w6 w3.heap.size (.slice A6 17 c6) (recB (71 :: beB (X.gen + 1) 8) ++ ((L.take 0).map recR).flatten) := by
      simpa using hO6.more HB5.out.size
    have hl6' : (recB (71 :: beB (X.gen + 1) 8) ++ ((L.take 0).map recR).flatten).length = 17 := by simpa using hl6
    have HPL := Lib.hid (fun j => part_len (X.gen + 1) L j)
    have HMR := Lib.hid (fun j r h => rwB_more (X.gen + 1) L j r h)
    have HYP := Lib.hid (show ∀ j, Byt (recB (71 :: beB (X.gen + 1) 8) ++ ((L.take j).map recR).flatten) from fun j => (recB_byt hYG).append (fun x hx => by
      obtain ⟨s, hs, hx⟩ := List.mem_flatten.1 hx
      obtain ⟨r, hr, rfl⟩ := List.mem_map.1 hs
      exact recR_byt (HL.out r (List.mem_of_mem_take hr)) x hx))
    have HTN : Hid (L.take n = L) := by show _ = _; rw [List.take_of_length_le (by omega)]
    clear C6 hO6 hl6 CE d2
    clear kc
    go_wp2_with fail
    go_loopw [7, 9] (fun s i wr => ∃ (j : Nat) (Ab : Option Addr) (nb cb : Nat), j ≤ n ∧ i = .int .i64 j ∧ s = .slice Ab nb cb ∧ Hid ((recB (71 :: beB (X.gen + 1) 8) ++ ((L.take j).map recR).flatten).length = nb) ∧ Own 5 wr w3.heap.size (.slice Ab nb cb) (recB (71 :: beB (X.gen + 1) 8) ++ ((L.take j).map recR).flatten) ∧ Below w3.heap.size w3 wr) (fun _ i _ => n - (intOf i).toNat)
    case atStart => exact ⟨0, _, 17, _, by omega, rfl, rfl, hl6', hO6', HB6.out⟩
    case round =>
      obtain ⟨j, Ab, nb, cb, hj, rfl, rfl, hnb, hO, hB⟩ := hrel
      have hnb2 : nb ≤ 1000000017 := by have := HPL.out j; have := hnb.out; omega
      have hcap := hO.caps hnb.out
      have hRb := hO.rd hnb.out
      by_cases hlt : j < n
      · obtain ⟨b, o, u, rfl, hu, hcell⟩ := (HRd.out wr (HC3.out.trans (chg_of_below hB))).at_ hlt
        obtain ⟨r, hr⟩ : ∃ r, L[j]? = some r := ⟨_, List.getElem?_eq_getElem (by omega)⟩
        rw [List.getElem?_map, hr] at hu
        obtain rfl := Option.some.inj hu
        have hrl := HLs.out r (List.mem_of_getElem? hr)
        have hYr : Byt (82 :: r) := (Byt.one (by decide) (by decide) : Byt [82]).append (HL.out r (List.mem_of_getElem? hr))
        have hr5 := (may_ok HM.out).2 r (List.mem_of_getElem? hr)
        have hadd := fun wx => run_string_add_sum (P := Try.prog) wx ⟨#[82]⟩ (strOfNums r) (by rw [strOfNums_size]; show 1 + r.length ≤ _; omega)
        simp only [str_R] at hadd
        have hrn : (82 :: r).length = r.length + 1 := rfl
        obtain ⟨mr, hmr⟩ : ∃ mr, (82 :: r).length = mr := ⟨_, rfl⟩
        have i0 : (0 : Int) ≤ j ∧ (j : Int) < n := by omega
        have HR := Lib.hid hr
        unfold strV at hcell
        clear hr
        go_wp2_with (with_reducible refine wpList_of_string rfl (.tmp 63) 9 35 5 rfl Try.underlying9 Try.underlying35 Try.underlying5 (82 :: r) mr hmr hYr ?hk1 rfl ?_)
        case hk1 => omega
        intro A2 c2 y1 hR2 hc2 hc2m hB2
        have C6 := Lib.hid (ref3.put3_any Ab nb cb _ A2 mr c2 (82 :: r) y1 (hRb.on hB2 hB2.size) hR2 hYr (by omega) (by omega) hc2 hc2m)
        clear hcell hadd
        go_wp2_with fail
        refine C6.out.mono ?_
        rintro e y2 ⟨A3, c3, rfl, hl3, hO3, hB3⟩
        rw [HMR.out j r HR.out] at hl3 hO3
        have hB13 := hB2.trans (hB3.mono hB2.size)
        have hs1 : w3.heap.size ≤ y1.heap.size := Nat.le_trans hB.size hB2.size
        clear C6
        go_wp2_with fail
        go_roundw
        case rel => exact ⟨j + 1, A3, _, c3, by omega, by go_num, rfl, hl3, hO3.more hs1, hB.trans (hB13.mono hB.size)⟩
        case measure => simp [intOf]; omega
      · obtain rfl : j = n := by omega
        have hO7 : Rd (wr.alloc (.cells #[.int .u8 69] 5 (1, 2))) (wr.heap.size + 1) (some ⟨wr.heap.size, 0, none⟩) 1 [69] := rd_lit wr 5 [69] 1 (1, 2) rfl
        have hB7 : Below wr.heap.size wr (wr.alloc (.cells #[.int .u8 69] 5 (1, 2))) := (Below.refl _ _).alloc (Nat.le_refl _) _
        have hs7 : (wr.alloc (.cells #[.int .u8 69] 5 (1, 2))).heap.size = wr.heap.size + 1 := by simp
        have C6' := ref3.put3_any Ab nb cb _ (some ⟨wr.heap.size, 0, none⟩) 1 1 [69] (wr.alloc (.cells #[.int .u8 69] 5 (1, 2))) (hRb.on hB7 hB7.size) (hO7.more (Nat.le_of_eq hs7.symm)) (Byt.one (by decide) (by decide)) (by omega) (by omega) (by omega) (by unfold maxLen; omega)
        rw [← hBx.out] at C6'
        have C6'' := Lib.hid C6'
        have kc := fun (w : World) (C : Array Value) (n c g : Nat) (hg : g = w.heap.size) => Joins.run_convert_bytes_const_at (P := Try.prog) w 35 5 C n c g hg Try.underlying35 Try.underlying5
        clear C6' hO7 hRb
        go_wp2_with fail
        refine C6''.out.mono ?_
        rintro e y3 ⟨A3, c3, rfl, hl3, hO3, hB3⟩
        clear C6'' kc
        have hB17 := hB7.trans (hB3.mono hB7.size)
        have hB37 : Below w3.heap.size w3 y3 := hB.trans (hB17.mono hB.size)
        have HCd : Hid (Chg (fpD p g) (fpD p g) w y3.drew) := (HC3.out.trans (chg_of_below hB37)).trans (chg_drewN _ y3 1)
        have H3 := Lib.hid ((H3.out.below hB37).below (w' := y3.drew) (drewN_below y3 1 _))
        have hpg : p < wr.heap.size ∧ g < wr.heap.size := by have := HC3.out.size; have := HB.out.blk.lt; have := HB.out.ref.lt; have := hB.size; omega
        obtain ⟨m7, hm7⟩ : ∃ m7, nb + (8 + 1) = m7 := ⟨_, rfl⟩
        rw [hm7] at hl3 hO3
        have hb7 : wr.heap.size ≤ (wr.alloc (.cells #[.int .u8 69] 5 (1, 2))).heap.size := hB7.size
        have HCV := Lib.hid (show ∀ wq : World, y3.heap.size ≤ wq.heap.size → (∀ k, wr.heap.size ≤ k ∧ k < y3.heap.size → wq.heap[k]? = y3.heap[k]?) → (convert 35 9 (.slice A3 m7 c3)).run Try.prog wq = .ok (.string (strOfNums Bs)) wq from fun wq hsz hk => by
          have hO : Own 5 wq wr.heap.size (.slice A3 m7 c3) Bs := by
            have hO3 := hO3.more hb7
            refine ⟨hO3.1, ?_⟩
            rcases hO3.2 with hn | ⟨g0, cap, cur, hv, hb, hg, rr⟩
            · exact .inl hn
            · exact .inr ⟨g0, cap, cur, hv, hb, by rw [hk g0 ⟨hb, (Array.getElem?_eq_some_iff.1 hg).1⟩]; exact hg, rr⟩
          exact run_string_rd wq 35 5 9 Try.underlying35 Try.underlying5 Try.underlying9 wq.heap.size A3 m7 c3 Bs (hO.rd hl3))
        have C6 := Lib.hid (C5.out y3.drew H3.out (by omega))
        have hs3 : y3.drew.cell? ⟨p, 0, none⟩ = some (.pointer (some ⟨g, 0, none⟩)) ∧ (convert 35 9 (.slice A3 m7 c3)).run Try.prog y3.drew = .ok (.string (strOfNums Bs)) y3.drew := ⟨H3.out.c0, HCV.out y3.drew (Nat.le_refl _) (fun k hk => rfl)⟩
        generalize strOfNums Bs = T at *
        clear hO3 hl3 C5 hO
        go_wp2_with fail
        refine wp_region_held_drew (S := fun wq => wq.cell? ⟨p, 0, none⟩ = some (.pointer (some ⟨g, 0, none⟩)) ∧ (convert 35 9 (.slice A3 m7 c3)).run Try.prog wq = .ok (.string T) wq) (by kernel_rfl) ?s_0 (fun hHeld => ?_)
        case s_0 => exact hs3
        clear hs3
        refine wpAnyH_take (i := 0) (oi := { dst := some 75, op := Go.Op.move (Go.Operand.tmp 0), type := 31, pos := "ref.go:123", after := #[], guard := none }) (v := ?v_0_1) rfl (by kernel_rfl) (by kernel_rfl) (by kernel_rfl) (fun _ _ _ h => h) (Or.inl ⟨by rfl, ?y_0_1⟩) (by assumption) ?_
        case y_0_1 => (intro wq hSw; (try dsimp only at hSw); go_simp; first | done | with_reducible rfl)
        try simp only [Act.put, List.setIfInBounds_toArray, List.set_cons_zero, List.set_cons_succ]
        refine wpAnyH_take (i := 1) (oi := { dst := some 76, op := Go.Op.move (Go.Operand.tmp 0), type := 31, pos := "ref.go:123", after := #[], guard := none }) (v := ?v_1_1) rfl (by kernel_rfl) (by kernel_rfl) (by kernel_rfl) (fun _ _ _ h => h) (Or.inl ⟨by rfl, ?y_1_1⟩) (by assumption) ?_
        case y_1_1 => (intro wq hSw; (try dsimp only at hSw); go_simp; first | done | with_reducible rfl)
        try simp only [Act.put, List.setIfInBounds_toArray, List.set_cons_zero, List.set_cons_succ]
        refine wpAnyH_take (i := 2) (oi := { dst := some 77, op := Go.Op.nilCheck (Go.Operand.tmp 76), type := 0, pos := "ref.go:123", after := #[{ on := 1, ground := Go.Ground.data }], guard := none }) (v := ?v_2_1) rfl (by kernel_rfl) (by kernel_rfl) (by kernel_rfl) (fun _ _ _ h => h) (Or.inl ⟨by rfl, ?y_2_1⟩) (by assumption) ?_
        case y_2_1 => (intro wq hSw; (try dsimp only at hSw); go_simp; first | done | with_reducible rfl)
        try simp only [Act.put, List.setIfInBounds_toArray, List.set_cons_zero, List.set_cons_succ]
        refine wpAnyH_take (i := 3) (oi := { dst := some 78, op := Go.Op.fieldAddr 80 (Go.Operand.tmp 77) 0, type := 0, pos := "ref.go:123", after := #[{ on := 2, ground := Go.Ground.data }], guard := none }) (v := ?v_3_1) rfl (by kernel_rfl) (by kernel_rfl) (by kernel_rfl) (fun _ _ _ h => h) (Or.inl ⟨by rfl, ?y_3_1⟩) (by assumption) ?_
        case y_3_1 => (intro wq hSw; (try dsimp only at hSw); go_simp; first | done | with_reducible rfl)
        try simp only [Act.put, List.setIfInBounds_toArray, List.set_cons_zero, List.set_cons_succ]
        refine wpAnyH_take (i := 4) (oi := { dst := some 79, op := Go.Op.load 28 (Go.Operand.tmp 78), type := 28, pos := "ref.go:123", after := #[{ on := 3, ground := Go.Ground.data }], guard := none }) (v := ?v_4_1) rfl (by kernel_rfl) (by kernel_rfl) (by kernel_rfl) (fun _ _ _ h => h) (Or.inl ⟨by rfl, ?y_4_1⟩) (by assumption) ?_
        case y_4_1 => (intro wq hSw; (try dsimp only at hSw); go_simp; first | done | with_reducible rfl)
        try simp only [Act.put, List.setIfInBounds_toArray, List.set_cons_zero, List.set_cons_succ]
        refine wpAnyH_take (i := 5) (oi := { dst := some 80, op := Go.Op.move (Go.Operand.tmp 6), type := 3, pos := "ref.go:123", after := #[], guard := none }) (v := ?v_5_1) rfl (by kernel_rfl) (by kernel_rfl) (by kernel_rfl) (fun _ _ _ h => h) (Or.inl ⟨by rfl, ?y_5_1⟩) (by assumption) ?_
        case y_5_1 => (intro wq hSw; (try dsimp only at hSw); go_simp; first | done | with_reducible rfl)
        try simp only [Act.put, List.setIfInBounds_toArray, List.set_cons_zero, List.set_cons_succ]
        refine wpAnyH_take (i := 6) (oi := { dst := some 81, op := Go.Op.move (Go.Operand.tmp 7), type := 35, pos := "ref.go:123", after := #[], guard := none }) (v := ?v_6_1) rfl (by kernel_rfl) (by kernel_rfl) (by kernel_rfl) (fun _ _ _ h => h) (Or.inl ⟨by rfl, ?y_6_1⟩) (by assumption) ?_
        case y_6_1 => (intro wq hSw; (try dsimp only at hSw); go_simp; first | done | with_reducible rfl)
        try simp only [Act.put, List.setIfInBounds_toArray, List.set_cons_zero, List.set_cons_succ]
        refine wpAnyH_take (i := 7) (oi := { dst := some 82, op := Go.Op.convert 35 9 (Go.Operand.tmp 81), type := 9, pos := "ref.go:123", after := #[{ on := 6, ground := Go.Ground.data }], guard := none }) (v := ?v_7_1) rfl (by kernel_rfl) (by kernel_rfl) (by kernel_rfl) (fun _ _ _ h => h) (Or.inl ⟨by rfl, ?y_7_1⟩) (by assumption) ?_
        case y_7_1 => (intro wq hSw; (try dsimp only at hSw); go_simp; first | done | with_reducible rfl)
        try simp only [Act.put, List.setIfInBounds_toArray, List.set_cons_zero, List.set_cons_succ]
        refine wpAnyH_ready (rs := [8]) (by kernel_rfl) (by simp) ?_
        refine AllReadyH.cons (o := { dst := some 83, op := Go.Op.call { callee := Go.Callee.value (Go.Operand.func 36), args := #[Go.Operand.tmp 79, Go.Operand.tmp 80, Go.Operand.tmp 82], argTypes := #[28, 3, 9] }, type := 41, pos := "ref.go:123", after := #[{ on := 4, ground := Go.Ground.data }, { on := 5, ground := Go.Ground.data }, { on := 7, ground := Go.Ground.data }], guard := none }) rfl (fun KQ hKQ => ?_) AllReadyH.nil
        go_simp
        refine C6.out.mono ?_
        rintro e y4 ⟨rfl, hr4, hG4⟩
        have h4 := H3.out.disk hr4 hG4
        have s4 := HCV.out y4 hG4.size (fun k hk => hG4.block k hk.2 (by simp; omega))
        have C7 := Lib.hid (C8.out y4 h4)
        clear C6 C8
        go_wp2_with fail
        refine hKQ.out _ _ ?s_8 (fun hHeld8 => ?_)
        case s_8 => exact ⟨h4.c0, s4⟩
        clear hKQ KQ
        try simp only [Act.put, List.setIfInBounds_toArray, List.set_cons_zero, List.set_cons_succ]
        refine wpAnyH_ready (rs := [9]) (by kernel_rfl) (by simp) ?_
        refine AllReadyH.cons (o := { dst := some 84, op := Go.Op.call { callee := Go.Callee.value (Go.Operand.func 67), args := #[Go.Operand.tmp 75, Go.Operand.tmp 83], argTypes := #[31, 41] }, type := 41, pos := "ref.go:123", after := #[{ on := 0, ground := Go.Ground.data }, { on := 8, ground := Go.Ground.data }, { on := 8, ground := Go.Ground.chain }], guard := none }) rfl (fun KQ hKQ => ?_) AllReadyH.nil
        go_simp
        refine C7.out.mono ?_
        rintro e y5 ⟨rfl, hf5, hG5⟩
        have s5 := HCV.out y5 (Nat.le_trans hG4.size hG5.size) (fun k hk => (hG5.block k (Nat.lt_of_lt_of_le hk.2 hG4.size) (by simp; omega)).trans (hG4.block k hk.2 (by simp; omega)))
        have hf6 : y5.cell? ⟨p, 0, none⟩ = some (.pointer (some ⟨g, 0, none⟩)) := by have a0 := hf5.c0; exact a0
        go_wp2_with fail
        refine hKQ.out _ _ ?s_9 (fun hHeld9 => ?_)
        case s_9 => exact ⟨hf6, s5⟩
        clear hKQ KQ
        try simp only [Act.put, List.setIfInBounds_toArray, List.set_cons_zero, List.set_cons_succ]
        refine wpAnyH_ready (rs := [10]) (by kernel_rfl) (by simp) ?_
        refine AllReadyH.cons (o := { dst := some 5, op := Go.Op.assign (Go.Operand.tmp 84), type := 41, pos := "ref.go:123", after := #[{ on := 9, ground := Go.Ground.data }, { on := 9, ground := Go.Ground.chain }, { on := 0, ground := Go.Ground.phase }, { on := 1, ground := Go.Ground.phase }, { on := 2, ground := Go.Ground.phase }, { on := 3, ground := Go.Ground.phase }, { on := 4, ground := Go.Ground.phase }, { on := 5, ground := Go.Ground.phase }, { on := 6, ground := Go.Ground.phase }, { on := 7, ground := Go.Ground.phase }, { on := 8, ground := Go.Ground.phase }, { on := 9, ground := Go.Ground.phase }], guard := none }) rfl (fun KQ hKQ => ?_) AllReadyH.nil
        go_simp
        refine hKQ.out _ _ ?s_10 (fun hHeld10 => ?_)
        case s_10 => exact ⟨hf6, s5⟩
        clear hKQ KQ
        try simp only [Act.put, List.setIfInBounds_toArray, List.set_cons_zero, List.set_cons_succ]
        refine wpAnyH_done (by kernel_rfl) ?_ _
        by_cases hx2 : x2 ≠ 0
        · have HO5 := Lib.hid (HO4.out.trans (if_pos hx2))
          have hne : (x2 != 0) = true := by simpa using hx2
          have HX2 := Lib.hid hx2
          clear HO4 C9 C10 HRd hx2
          go_wp2_with fail
          go_ret
          rw [HO5.out]
          exact RetX.failed HCd.out.wide hG4 HX2.out hf5 hG5
        have HO5 := Lib.hid (HO4.out.trans (if_neg hx2))
        obtain rfl : x2 = 0 := by simpa using hx2
        rw [if_pos rfl] at hf5
        have H5 := Lib.hid hf5
        have HC5 := Lib.hid ((HCd.out.trans (Chg.disk hG4)).trans (Chg.log hG5))
        have C11 := Lib.hid (C9.out y5 hf5)
        have d0 := hf5.c0
        clear HO4 C9 hx2 hf5 hG4 hG5 hHeld hHeld8 hHeld9 hHeld10 s4 s5 h4 hf6 hr4
        go_wp2_with fail
        refine C11.out.mono ?_
        rintro e y6 ⟨rfl, hr6, hG6⟩
        have C12 := Lib.hid (C10.out y6 (H5.out.disk hr6 hG6))
        clear C10 C11 d0
        go_wp2_with fail
        refine C12.out.mono ?_
        rintro e z3 ⟨rfl, hf8, hG8⟩
        by_cases hx3 : x3 ≠ 0
        · have HO6 := Lib.hid (HO5.out.trans (if_pos hx3))
          have hne : (x3 != 0) = true := by simpa using hx3
          have HX3 := Lib.hid hx3
          clear HO5 HRd hx3 C12
          go_wp2_with fail
          go_ret
          rw [HO6.out]
          exact RetX.failed HC5.out.wide hG6 HX3.out hf8 hG8
        have HO6 := Lib.hid (HO5.out.trans (if_neg hx3))
        obtain rfl : x3 = 0 := by simpa using hx3
        rw [if_pos rfl] at hf8
        have HZ3 := Lib.hid hf8
        have HCH3 := Lib.hid ((HC5.out.trans (Chg.disk hG6)).trans (Chg.log hG8))
        have d0 := hf8.c0
        have d1 := hf8.c1
        have d2 := hf8.c2
        have e2 : (z3.alloc (.cells #[] 9)).cell? ⟨p, 2, none⟩ = some (.int .u64 X.gen) := (hf8.below (w' := z3.alloc (.cells #[] 9)) ((Below.refl _ _).alloc (Nat.le_refl _) _)).c2
        have HONE := Lib.hid (show ∀ u ∈ L.map strV, u.oneCell' = true from fun u hu => by
          obtain ⟨r, _, rfl⟩ := List.mem_map.1 hu
          rfl)
        have HOE := Lib.hid (show OwnV 9 (z3.drew.alloc (.cells #[] 9)) z3.heap.size (.slice (some ⟨z3.heap.size, 0, none⟩) 0 0) [] from ⟨rfl, .inr ⟨z3.heap.size, 0, #[], rfl, Nat.le_refl _, heap_alloc_new z3.drew _, Nat.le_refl _, by unfold maxLen; omega, rfl, rfl⟩⟩)
        have HBz := Lib.hid (show Below z3.heap.size z3 (z3.drew.alloc (.cells #[] 9)) from ((Below.refl _ _).drew).alloc (Nat.le_refl _) _)
        have HRE := Lib.hid ((HRd.out z3 HCH3.out).on HBz.out HBz.out.size)
        have HFE := Lib.hid (show Blk 80 (z3.drew.alloc (.cells #[] 9)) p (rwV X g v) from Blk.below hf8.blk HBz.out hf8.blk.lt)
        have HNE := Lib.hid (show (Value.slice (some (⟨z3.heap.size, 0, none⟩ : Addr)) 0 0).ownBlock ≠ some p ∧ True from ⟨fun e => by
          have := hf8.blk.lt
          simp [Value.ownBlock] at e
          omega, trivial⟩)
        clear HO5 hx3 hf8 hG6 hG8 C12 hr6 HRd
        go_wp2_with fail
        refine wp_region_held_drew (S := fun _ => True) (by kernel_rfl) ?s_1 (fun hHeld => ?_)
        case s_1 => trivial
        refine wpAnyH_take (i := 0) (oi := { dst := some 99, op := Go.Op.move (Go.Operand.tmp 0), type := 31, pos := "ref.go:131", after := #[], guard := none }) (v := ?v_0t1) rfl (by kernel_rfl) (by kernel_rfl) (by kernel_rfl) (fun _ _ _ h => h) (Or.inl ⟨by rfl, ?y_0t1⟩) (by assumption) ?_
        case y_0t1 => (intro wq hSw; (try dsimp only at hSw); go_simp; first | done | with_reducible rfl)
        try simp only [Act.put, List.setIfInBounds_toArray, List.set_cons_zero, List.set_cons_succ]
        refine wpAnyH_take (i := 1) (oi := { dst := some 100, op := Go.Op.move (Go.Operand.tmp 0), type := 31, pos := "ref.go:131", after := #[{ on := 14, ground := Go.Ground.gcOnly Go.Departure.lateStores }], guard := none }) (v := ?v_1t1) rfl (by kernel_rfl) (by kernel_rfl) (by kernel_rfl) (fun _ _ _ h => h) (Or.inl ⟨by rfl, ?y_1t1⟩) (by assumption) ?_
        case y_1t1 => (intro wq hSw; (try dsimp only at hSw); go_simp; first | done | with_reducible rfl)
        try simp only [Act.put, List.setIfInBounds_toArray, List.set_cons_zero, List.set_cons_succ]
        refine wpAnyH_take (i := 2) (oi := { dst := some 101, op := Go.Op.move (Go.Operand.tmp 0), type := 31, pos := "ref.go:131", after := #[{ on := 17, ground := Go.Ground.gcOnly Go.Departure.lateStores }], guard := none }) (v := ?v_2t1) rfl (by kernel_rfl) (by kernel_rfl) (by kernel_rfl) (fun _ _ _ h => h) (Or.inl ⟨by rfl, ?y_2t1⟩) (by assumption) ?_
        case y_2t1 => (intro wq hSw; (try dsimp only at hSw); go_simp; first | done | with_reducible rfl)
        try simp only [Act.put, List.setIfInBounds_toArray, List.set_cons_zero, List.set_cons_succ]
        refine wpAnyH_take (i := 3) (oi := { dst := some 102, op := Go.Op.move (Go.Operand.tmp 6), type := 3, pos := "ref.go:131", after := #[], guard := none }) (v := ?v_3t1) rfl (by kernel_rfl) (by kernel_rfl) (by kernel_rfl) (fun _ _ _ h => h) (Or.inl ⟨by rfl, ?y_3t1⟩) (by assumption) ?_
        case y_3t1 => (intro wq hSw; (try dsimp only at hSw); go_simp; first | done | with_reducible rfl)
        try simp only [Act.put, List.setIfInBounds_toArray, List.set_cons_zero, List.set_cons_succ]
        refine wpAnyH_take (i := 4) (oi := { dst := some 103, op := Go.Op.move (Go.Operand.tmp 0), type := 31, pos := "ref.go:131", after := #[], guard := none }) (v := ?v_4t1) rfl (by kernel_rfl) (by kernel_rfl) (by kernel_rfl) (fun _ _ _ h => h) (Or.inl ⟨by rfl, ?y_4t1⟩) (by assumption) ?_
        case y_4t1 => (intro wq hSw; (try dsimp only at hSw); go_simp; first | done | with_reducible rfl)
        try simp only [Act.put, List.setIfInBounds_toArray, List.set_cons_zero, List.set_cons_succ]
        refine wpAnyH_take (i := 10) (oi := { dst := some 109, op := Go.Op.move (Go.Operand.tmp 1), type := 44, pos := "ref.go:131", after := #[], guard := none }) (v := ?v_10t1) rfl (by kernel_rfl) (by kernel_rfl) (by kernel_rfl) (fun _ _ _ h => h) (Or.inl ⟨by rfl, ?y_10t1⟩) (by assumption) ?_
        case y_10t1 => (intro wq hSw; (try dsimp only at hSw); go_simp; first | done | with_reducible rfl)
        try simp only [Act.put, List.setIfInBounds_toArray, List.set_cons_zero, List.set_cons_succ]
        refine wpAnyH_take (i := 5) (oi := { dst := some 104, op := Go.Op.nilCheck (Go.Operand.tmp 103), type := 0, pos := "ref.go:131", after := #[{ on := 4, ground := Go.Ground.data }], guard := none }) (v := ?v_5t1) rfl (by kernel_rfl) (by kernel_rfl) (by kernel_rfl) (fun _ _ _ h => h) (Or.inl ⟨by rfl, ?y_5t1⟩) (by assumption) ?_
        case y_5t1 => (intro wq hSw; (try dsimp only at hSw); go_simp; first | done | with_reducible rfl)
        try simp only [Act.put, List.setIfInBounds_toArray, List.set_cons_zero, List.set_cons_succ]
        refine wpAnyH_take (i := 6) (oi := { dst := some 105, op := Go.Op.fieldAddr 80 (Go.Operand.tmp 104) 2, type := 0, pos := "ref.go:131", after := #[{ on := 5, ground := Go.Ground.data }], guard := none }) (v := ?v_6t1) rfl (by kernel_rfl) (by kernel_rfl) (by kernel_rfl) (fun _ _ _ h => h) (Or.inl ⟨by rfl, ?y_6t1⟩) (by assumption) ?_
        case y_6t1 => (intro wq hSw; (try dsimp only at hSw); go_simp; first | done | with_reducible rfl)
        try simp only [Act.put, List.setIfInBounds_toArray, List.set_cons_zero, List.set_cons_succ]
        refine wpAnyH_ready (rs := [7, 9]) (by kernel_rfl) (by simp) ?_
        refine AllReadyH.cons (o := { dst := some 106, op := Go.Op.load 58 (Go.Operand.tmp 105), type := 58, pos := "ref.go:131", after := #[{ on := 6, ground := Go.Ground.data }], guard := none }) rfl (fun KQ hKQ => ?_) (AllReadyH.cons (o := { dst := some 108, op := Go.Op.buildSlice 44 0 #[], type := 44, pos := "ref.go:131", after := #[], guard := none }) rfl (fun KQ hKQ => ?_) (AllReadyH.nil))
        · go_simp
          refine hKQ.out _ _ ?s_7t1 (fun hHeld7 => ?_)
          case s_7t1 => trivial
          clear hKQ KQ
          try simp only [Act.put, List.setIfInBounds_toArray, List.set_cons_zero, List.set_cons_succ]
          refine wpAnyH_take (i := 8) (oi := { dst := some 107, op := Go.Op.binOp Go.BinOp.add 58 (Go.Operand.tmp 106) (Go.Operand.const (Go.Value.int Go.IntKind.u64 1)) 58, type := 58, pos := "ref.go:131", after := #[{ on := 7, ground := Go.Ground.data }], guard := none }) (v := ?v_8t2) rfl (by kernel_rfl) (by kernel_rfl) (by kernel_rfl) (fun _ _ _ h => h) (Or.inl ⟨by rfl, ?y_8t2⟩) (by assumption) ?_
          case y_8t2 => (intro wq hSw; (try dsimp only at hSw); go_simp; first | done | with_reducible rfl)
          try simp only [Act.put, List.setIfInBounds_toArray, List.set_cons_zero, List.set_cons_succ]
          refine wpAnyH_ready (rs := [9]) (by kernel_rfl) (by simp) ?_
          refine AllReadyH.cons (o := { dst := some 108, op := Go.Op.buildSlice 44 0 #[], type := 44, pos := "ref.go:131", after := #[], guard := none }) rfl (fun KQ hKQ => ?_) AllReadyH.nil
          go_simp
          refine hKQ.out _ _ ?s_9t2 (fun hHeld9 => ?_)
          case s_9t2 => trivial
          clear hKQ KQ
          try simp only [Act.put, List.setIfInBounds_toArray, List.set_cons_zero, List.set_cons_succ]
          refine wpAnyH_ready (rs := [11]) (by kernel_rfl) (by simp) ?_
          refine AllReadyH.cons (o := { dst := some 110, op := Go.Op.call { callee := Go.Callee.builtin Go.Builtin.append, args := #[Go.Operand.tmp 108, Go.Operand.tmp 109], argTypes := #[44, 44] }, type := 44, pos := "ref.go:131", after := #[{ on := 9, ground := Go.Ground.data }, { on := 10, ground := Go.Ground.data }], guard := none }) rfl (fun KQ hKQ => ?_) AllReadyH.nil
          rw [if_pos (by rfl)]
          refine wp_append_vf (.tmp 108) (.tmp 109) 44 rfl z3.heap.size 9 (.string ⟨#[]⟩) 16 Try.underlying44 infoS rfl _ 0 0 [] rfl rfl HOE.out _ A j c _ rfl HRE.out HONE.out (by omega) (by unfold maxLen; omega) (by simp) ?_
          intro A7 c7 w7 hO7 hB7 hG7 hN7
          have hF7 : Blk 80 w7 p (rwV X g v) := (hG7.block p HFE.out.lt (fun e => HNE.out.1 e.symm)).trans HFE.out
          have c71 := hF7.cell 1
          have c72 := hF7.cell 2
          have c73 := hF7.cell 3
          have f71 := hF7.frozen 1
          have f72 := hF7.frozen 2
          have f73 := hF7.frozen 3
          unfold rwV at c71 c72 c73
          simp only [List.getElem?_cons_zero, List.getElem?_cons_succ] at c71 c72 c73
          refine hKQ.out _ _ ?s_11t2 (fun hHeld11 => ?_)
          case s_11t2 => trivial
          clear hKQ KQ
          try simp only [Act.put, List.setIfInBounds_toArray, List.set_cons_zero, List.set_cons_succ]
          refine wpAnyH_take (i := 12) (oi := { dst := some 111, op := Go.Op.nilCheck (Go.Operand.tmp 99), type := 0, pos := "ref.go:131", after := #[{ on := 0, ground := Go.Ground.data }, { on := 0, ground := Go.Ground.phase }, { on := 1, ground := Go.Ground.textOnly Go.Departure.lateStores }, { on := 2, ground := Go.Ground.textOnly Go.Departure.lateStores }, { on := 3, ground := Go.Ground.phase }, { on := 4, ground := Go.Ground.textOnly Go.Departure.lateStores }, { on := 5, ground := Go.Ground.textOnly Go.Departure.lateStoresUnsure }, { on := 6, ground := Go.Ground.textOnly Go.Departure.lateStoresUnsure }, { on := 7, ground := Go.Ground.phase }, { on := 8, ground := Go.Ground.textOnly Go.Departure.lateStoresUnsure }, { on := 9, ground := Go.Ground.textOnly Go.Departure.lateStoresUnsure }, { on := 10, ground := Go.Ground.textOnly Go.Departure.lateStores }, { on := 11, ground := Go.Ground.phase }], guard := none }) (v := ?v_12t2) rfl (by kernel_rfl) (by kernel_rfl) (by kernel_rfl) (fun _ _ _ h => h) (Or.inl ⟨by rfl, ?y_12t2⟩) (by assumption) ?_
          case y_12t2 => (intro wq hSw; (try dsimp only at hSw); go_simp; first | done | with_reducible rfl)
          try simp only [Act.put, List.setIfInBounds_toArray, List.set_cons_zero, List.set_cons_succ]
          refine wpAnyH_take (i := 13) (oi := { dst := some 112, op := Go.Op.fieldAddr 80 (Go.Operand.tmp 111) 1, type := 0, pos := "ref.go:131", after := #[{ on := 12, ground := Go.Ground.data }, { on := 0, ground := Go.Ground.phase }, { on := 1, ground := Go.Ground.textOnly Go.Departure.lateStores }, { on := 2, ground := Go.Ground.textOnly Go.Departure.lateStores }, { on := 3, ground := Go.Ground.phase }, { on := 4, ground := Go.Ground.textOnly Go.Departure.lateStores }, { on := 5, ground := Go.Ground.textOnly Go.Departure.lateStoresUnsure }, { on := 6, ground := Go.Ground.textOnly Go.Departure.lateStoresUnsure }, { on := 7, ground := Go.Ground.phase }, { on := 8, ground := Go.Ground.textOnly Go.Departure.lateStoresUnsure }, { on := 9, ground := Go.Ground.textOnly Go.Departure.lateStoresUnsure }, { on := 10, ground := Go.Ground.textOnly Go.Departure.lateStores }, { on := 11, ground := Go.Ground.phase }], guard := none }) (v := ?v_13t2) rfl (by kernel_rfl) (by kernel_rfl) (by kernel_rfl) (fun _ _ _ h => h) (Or.inl ⟨by rfl, ?y_13t2⟩) (by assumption) ?_
          case y_13t2 => (intro wq hSw; (try dsimp only at hSw); go_simp; first | done | with_reducible rfl)
          try simp only [Act.put, List.setIfInBounds_toArray, List.set_cons_zero, List.set_cons_succ]
          refine wpAnyH_ready (rs := [14]) (by kernel_rfl) (by simp) ?_
          refine AllReadyH.cons (o := { dst := none, op := Go.Op.store 3 (Go.Operand.tmp 112) (Go.Operand.tmp 102), type := 0, pos := "ref.go:131", after := #[{ on := 13, ground := Go.Ground.data }, { on := 3, ground := Go.Ground.data }, { on := 11, ground := Go.Ground.chain }, { on := 0, ground := Go.Ground.phase }, { on := 1, ground := Go.Ground.textOnly Go.Departure.lateStores }, { on := 2, ground := Go.Ground.textOnly Go.Departure.lateStores }, { on := 3, ground := Go.Ground.phase }, { on := 4, ground := Go.Ground.textOnly Go.Departure.lateStores }, { on := 5, ground := Go.Ground.textOnly Go.Departure.lateStoresUnsure }, { on := 6, ground := Go.Ground.textOnly Go.Departure.lateStoresUnsure }, { on := 7, ground := Go.Ground.phase }, { on := 8, ground := Go.Ground.textOnly Go.Departure.lateStoresUnsure }, { on := 9, ground := Go.Ground.textOnly Go.Departure.lateStoresUnsure }, { on := 10, ground := Go.Ground.textOnly Go.Departure.lateStores }, { on := 11, ground := Go.Ground.phase }], guard := none }) rfl (fun KQ hKQ => ?_) AllReadyH.nil
          go_simp
          refine hKQ.out _ _ ?s_14t2 (fun hHeld14 => ?_)
          case s_14t2 => trivial
          clear hKQ KQ
          try simp only [Act.put]
          refine wpAnyH_take (i := 15) (oi := { dst := some 113, op := Go.Op.nilCheck (Go.Operand.tmp 100), type := 0, pos := "ref.go:131", after := #[{ on := 1, ground := Go.Ground.data }, { on := 0, ground := Go.Ground.phase }, { on := 1, ground := Go.Ground.phase }, { on := 2, ground := Go.Ground.textOnly Go.Departure.lateStores }, { on := 3, ground := Go.Ground.phase }, { on := 4, ground := Go.Ground.phase }, { on := 5, ground := Go.Ground.phase }, { on := 6, ground := Go.Ground.phase }, { on := 7, ground := Go.Ground.phase }, { on := 8, ground := Go.Ground.phase }, { on := 9, ground := Go.Ground.textOnly Go.Departure.lateStoresUnsure }, { on := 10, ground := Go.Ground.textOnly Go.Departure.lateStores }, { on := 11, ground := Go.Ground.phase }, { on := 12, ground := Go.Ground.phase }, { on := 13, ground := Go.Ground.phase }, { on := 14, ground := Go.Ground.phase }], guard := none }) (v := ?v_15t2) rfl (by kernel_rfl) (by kernel_rfl) (by kernel_rfl) (fun _ _ _ h => h) (Or.inl ⟨by rfl, ?y_15t2⟩) (by assumption) ?_
          case y_15t2 => (intro wq hSw; (try dsimp only at hSw); go_simp; first | done | with_reducible rfl)
          try simp only [Act.put, List.setIfInBounds_toArray, List.set_cons_zero, List.set_cons_succ]
          refine wpAnyH_take (i := 16) (oi := { dst := some 114, op := Go.Op.fieldAddr 80 (Go.Operand.tmp 113) 2, type := 0, pos := "ref.go:131", after := #[{ on := 15, ground := Go.Ground.data }, { on := 0, ground := Go.Ground.phase }, { on := 1, ground := Go.Ground.phase }, { on := 2, ground := Go.Ground.textOnly Go.Departure.lateStores }, { on := 3, ground := Go.Ground.phase }, { on := 4, ground := Go.Ground.phase }, { on := 5, ground := Go.Ground.phase }, { on := 6, ground := Go.Ground.phase }, { on := 7, ground := Go.Ground.phase }, { on := 8, ground := Go.Ground.phase }, { on := 9, ground := Go.Ground.textOnly Go.Departure.lateStoresUnsure }, { on := 10, ground := Go.Ground.textOnly Go.Departure.lateStores }, { on := 11, ground := Go.Ground.phase }, { on := 12, ground := Go.Ground.phase }, { on := 13, ground := Go.Ground.phase }, { on := 14, ground := Go.Ground.phase }], guard := none }) (v := ?v_16t2) rfl (by kernel_rfl) (by kernel_rfl) (by kernel_rfl) (fun _ _ _ h => h) (Or.inl ⟨by rfl, ?y_16t2⟩) (by assumption) ?_
          case y_16t2 => (intro wq hSw; (try dsimp only at hSw); go_simp; first | done | with_reducible rfl)
          try simp only [Act.put, List.setIfInBounds_toArray, List.set_cons_zero, List.set_cons_succ]
          refine wpAnyH_ready (rs := [17]) (by kernel_rfl) (by simp) ?_
          refine AllReadyH.cons (o := { dst := none, op := Go.Op.store 58 (Go.Operand.tmp 114) (Go.Operand.tmp 107), type := 0, pos := "ref.go:131", after := #[{ on := 16, ground := Go.Ground.data }, { on := 8, ground := Go.Ground.data }, { on := 14, ground := Go.Ground.chain }, { on := 0, ground := Go.Ground.phase }, { on := 1, ground := Go.Ground.phase }, { on := 2, ground := Go.Ground.textOnly Go.Departure.lateStores }, { on := 3, ground := Go.Ground.phase }, { on := 4, ground := Go.Ground.phase }, { on := 5, ground := Go.Ground.phase }, { on := 6, ground := Go.Ground.phase }, { on := 7, ground := Go.Ground.phase }, { on := 8, ground := Go.Ground.phase }, { on := 9, ground := Go.Ground.textOnly Go.Departure.lateStoresUnsure }, { on := 10, ground := Go.Ground.textOnly Go.Departure.lateStores }, { on := 11, ground := Go.Ground.phase }, { on := 12, ground := Go.Ground.phase }, { on := 13, ground := Go.Ground.phase }, { on := 14, ground := Go.Ground.phase }], guard := none }) rfl (fun KQ hKQ => ?_) AllReadyH.nil
          go_simp
          refine hKQ.out _ _ ?s_17t2 (fun hHeld17 => ?_)
          case s_17t2 => trivial
          clear hKQ KQ
          try simp only [Act.put]
          refine wpAnyH_take (i := 18) (oi := { dst := some 115, op := Go.Op.nilCheck (Go.Operand.tmp 101), type := 0, pos := "ref.go:131", after := #[{ on := 2, ground := Go.Ground.data }, { on := 0, ground := Go.Ground.phase }, { on := 1, ground := Go.Ground.phase }, { on := 2, ground := Go.Ground.phase }, { on := 3, ground := Go.Ground.phase }, { on := 4, ground := Go.Ground.phase }, { on := 5, ground := Go.Ground.phase }, { on := 6, ground := Go.Ground.phase }, { on := 7, ground := Go.Ground.phase }, { on := 8, ground := Go.Ground.phase }, { on := 9, ground := Go.Ground.phase }, { on := 10, ground := Go.Ground.phase }, { on := 11, ground := Go.Ground.phase }, { on := 12, ground := Go.Ground.phase }, { on := 13, ground := Go.Ground.phase }, { on := 14, ground := Go.Ground.phase }, { on := 15, ground := Go.Ground.phase }, { on := 16, ground := Go.Ground.phase }, { on := 17, ground := Go.Ground.phase }], guard := none }) (v := ?v_18t2) rfl (by kernel_rfl) (by kernel_rfl) (by kernel_rfl) (fun _ _ _ h => h) (Or.inl ⟨by rfl, ?y_18t2⟩) (by assumption) ?_
          case y_18t2 => (intro wq hSw; (try dsimp only at hSw); go_simp; first | done | with_reducible rfl)
          try simp only [Act.put, List.setIfInBounds_toArray, List.set_cons_zero, List.set_cons_succ]
          refine wpAnyH_take (i := 19) (oi := { dst := some 116, op := Go.Op.fieldAddr 80 (Go.Operand.tmp 115) 3, type := 0, pos := "ref.go:131", after := #[{ on := 18, ground := Go.Ground.data }, { on := 0, ground := Go.Ground.phase }, { on := 1, ground := Go.Ground.phase }, { on := 2, ground := Go.Ground.phase }, { on := 3, ground := Go.Ground.phase }, { on := 4, ground := Go.Ground.phase }, { on := 5, ground := Go.Ground.phase }, { on := 6, ground := Go.Ground.phase }, { on := 7, ground := Go.Ground.phase }, { on := 8, ground := Go.Ground.phase }, { on := 9, ground := Go.Ground.phase }, { on := 10, ground := Go.Ground.phase }, { on := 11, ground := Go.Ground.phase }, { on := 12, ground := Go.Ground.phase }, { on := 13, ground := Go.Ground.phase }, { on := 14, ground := Go.Ground.phase }, { on := 15, ground := Go.Ground.phase }, { on := 16, ground := Go.Ground.phase }, { on := 17, ground := Go.Ground.phase }], guard := none }) (v := ?v_19t2) rfl (by kernel_rfl) (by kernel_rfl) (by kernel_rfl) (fun _ _ _ h => h) (Or.inl ⟨by rfl, ?y_19t2⟩) (by assumption) ?_
          case y_19t2 => (intro wq hSw; (try dsimp only at hSw); go_simp; first | done | with_reducible rfl)
          try simp only [Act.put, List.setIfInBounds_toArray, List.set_cons_zero, List.set_cons_succ]
          refine wpAnyH_ready (rs := [20]) (by kernel_rfl) (by simp) ?_
          refine AllReadyH.cons (o := { dst := none, op := Go.Op.store 44 (Go.Operand.tmp 116) (Go.Operand.tmp 110), type := 0, pos := "ref.go:131", after := #[{ on := 19, ground := Go.Ground.data }, { on := 11, ground := Go.Ground.data }, { on := 17, ground := Go.Ground.chain }, { on := 0, ground := Go.Ground.phase }, { on := 1, ground := Go.Ground.phase }, { on := 2, ground := Go.Ground.phase }, { on := 3, ground := Go.Ground.phase }, { on := 4, ground := Go.Ground.phase }, { on := 5, ground := Go.Ground.phase }, { on := 6, ground := Go.Ground.phase }, { on := 7, ground := Go.Ground.phase }, { on := 8, ground := Go.Ground.phase }, { on := 9, ground := Go.Ground.phase }, { on := 10, ground := Go.Ground.phase }, { on := 11, ground := Go.Ground.phase }, { on := 12, ground := Go.Ground.phase }, { on := 13, ground := Go.Ground.phase }, { on := 14, ground := Go.Ground.phase }, { on := 15, ground := Go.Ground.phase }, { on := 16, ground := Go.Ground.phase }, { on := 17, ground := Go.Ground.phase }], guard := none }) rfl (fun KQ hKQ => ?_) AllReadyH.nil
          go_simp
          refine hKQ.out _ _ ?s_20t2 (fun hHeld20 => ?_)
          case s_20t2 => trivial
          clear hKQ KQ
          try simp only [Act.put]
          refine wpAnyH_done (by kernel_rfl) ?_ _
          go_wp2_with fail
          go_ret
          rw [HO6.out]
          rw [Nat.zero_add] at *
          exact rw_end HZ3.out HCH3.out hbz hO7 hB7
        · go_simp
          refine hKQ.out _ _ ?s_9t1 (fun hHeld9 => ?_)
          case s_9t1 => trivial
          clear hKQ KQ
          try simp only [Act.put, List.setIfInBounds_toArray, List.set_cons_zero, List.set_cons_succ]
          refine wpAnyH_ready (rs := [7, 11]) (by kernel_rfl) (by simp) ?_
          refine AllReadyH.cons (o := { dst := some 106, op := Go.Op.load 58 (Go.Operand.tmp 105), type := 58, pos := "ref.go:131", after := #[{ on := 6, ground := Go.Ground.data }], guard := none }) rfl (fun KQ hKQ => ?_) (AllReadyH.cons (o := { dst := some 110, op := Go.Op.call { callee := Go.Callee.builtin Go.Builtin.append, args := #[Go.Operand.tmp 108, Go.Operand.tmp 109], argTypes := #[44, 44] }, type := 44, pos := "ref.go:131", after := #[{ on := 9, ground := Go.Ground.data }, { on := 10, ground := Go.Ground.data }], guard := none }) rfl (fun KQ hKQ => ?_) (AllReadyH.nil))
          · go_simp
            refine hKQ.out _ _ ?s_7t3 (fun hHeld7 => ?_)
            case s_7t3 => trivial
            clear hKQ KQ
            try simp only [Act.put, List.setIfInBounds_toArray, List.set_cons_zero, List.set_cons_succ]
            refine wpAnyH_take (i := 8) (oi := { dst := some 107, op := Go.Op.binOp Go.BinOp.add 58 (Go.Operand.tmp 106) (Go.Operand.const (Go.Value.int Go.IntKind.u64 1)) 58, type := 58, pos := "ref.go:131", after := #[{ on := 7, ground := Go.Ground.data }], guard := none }) (v := ?v_8t4) rfl (by kernel_rfl) (by kernel_rfl) (by kernel_rfl) (fun _ _ _ h => h) (Or.inl ⟨by rfl, ?y_8t4⟩) (by assumption) ?_
            case y_8t4 => (intro wq hSw; (try dsimp only at hSw); go_simp; first | done | with_reducible rfl)
            try simp only [Act.put, List.setIfInBounds_toArray, List.set_cons_zero, List.set_cons_succ]
            refine wpAnyH_ready (rs := [11]) (by kernel_rfl) (by simp) ?_
            refine AllReadyH.cons (o := { dst := some 110, op := Go.Op.call { callee := Go.Callee.builtin Go.Builtin.append, args := #[Go.Operand.tmp 108, Go.Operand.tmp 109], argTypes := #[44, 44] }, type := 44, pos := "ref.go:131", after := #[{ on := 9, ground := Go.Ground.data }, { on := 10, ground := Go.Ground.data }], guard := none }) rfl (fun KQ hKQ => ?_) AllReadyH.nil
            rw [if_pos (by rfl)]
            refine wp_append_vf (.tmp 108) (.tmp 109) 44 rfl z3.heap.size 9 (.string ⟨#[]⟩) 16 Try.underlying44 infoS rfl _ 0 0 [] rfl rfl HOE.out _ A j c _ rfl HRE.out HONE.out (by omega) (by unfold maxLen; omega) (by simp) ?_
            intro A7 c7 w7 hO7 hB7 hG7 hN7
            have hF7 : Blk 80 w7 p (rwV X g v) := (hG7.block p HFE.out.lt (fun e => HNE.out.1 e.symm)).trans HFE.out
            have c71 := hF7.cell 1
            have c72 := hF7.cell 2
            have c73 := hF7.cell 3
            have f71 := hF7.frozen 1
            have f72 := hF7.frozen 2
            have f73 := hF7.frozen 3
            unfold rwV at c71 c72 c73
            simp only [List.getElem?_cons_zero, List.getElem?_cons_succ] at c71 c72 c73
            refine hKQ.out _ _ ?s_11t4 (fun hHeld11 => ?_)
            case s_11t4 => trivial
            clear hKQ KQ
            try simp only [Act.put, List.setIfInBounds_toArray, List.set_cons_zero, List.set_cons_succ]
            refine wpAnyH_take (i := 12) (oi := { dst := some 111, op := Go.Op.nilCheck (Go.Operand.tmp 99), type := 0, pos := "ref.go:131", after := #[{ on := 0, ground := Go.Ground.data }, { on := 0, ground := Go.Ground.phase }, { on := 1, ground := Go.Ground.textOnly Go.Departure.lateStores }, { on := 2, ground := Go.Ground.textOnly Go.Departure.lateStores }, { on := 3, ground := Go.Ground.phase }, { on := 4, ground := Go.Ground.textOnly Go.Departure.lateStores }, { on := 5, ground := Go.Ground.textOnly Go.Departure.lateStoresUnsure }, { on := 6, ground := Go.Ground.textOnly Go.Departure.lateStoresUnsure }, { on := 7, ground := Go.Ground.phase }, { on := 8, ground := Go.Ground.textOnly Go.Departure.lateStoresUnsure }, { on := 9, ground := Go.Ground.textOnly Go.Departure.lateStoresUnsure }, { on := 10, ground := Go.Ground.textOnly Go.Departure.lateStores }, { on := 11, ground := Go.Ground.phase }], guard := none }) (v := ?v_12t4) rfl (by kernel_rfl) (by kernel_rfl) (by kernel_rfl) (fun _ _ _ h => h) (Or.inl ⟨by rfl, ?y_12t4⟩) (by assumption) ?_
            case y_12t4 => (intro wq hSw; (try dsimp only at hSw); go_simp; first | done | with_reducible rfl)
            try simp only [Act.put, List.setIfInBounds_toArray, List.set_cons_zero, List.set_cons_succ]
            refine wpAnyH_take (i := 13) (oi := { dst := some 112, op := Go.Op.fieldAddr 80 (Go.Operand.tmp 111) 1, type := 0, pos := "ref.go:131", after := #[{ on := 12, ground := Go.Ground.data }, { on := 0, ground := Go.Ground.phase }, { on := 1, ground := Go.Ground.textOnly Go.Departure.lateStores }, { on := 2, ground := Go.Ground.textOnly Go.Departure.lateStores }, { on := 3, ground := Go.Ground.phase }, { on := 4, ground := Go.Ground.textOnly Go.Departure.lateStores }, { on := 5, ground := Go.Ground.textOnly Go.Departure.lateStoresUnsure }, { on := 6, ground := Go.Ground.textOnly Go.Departure.lateStoresUnsure }, { on := 7, ground := Go.Ground.phase }, { on := 8, ground := Go.Ground.textOnly Go.Departure.lateStoresUnsure }, { on := 9, ground := Go.Ground.textOnly Go.Departure.lateStoresUnsure }, { on := 10, ground := Go.Ground.textOnly Go.Departure.lateStores }, { on := 11, ground := Go.Ground.phase }], guard := none }) (v := ?v_13t4) rfl (by kernel_rfl) (by kernel_rfl) (by kernel_rfl) (fun _ _ _ h => h) (Or.inl ⟨by rfl, ?y_13t4⟩) (by assumption) ?_
            case y_13t4 => (intro wq hSw; (try dsimp only at hSw); go_simp; first | done | with_reducible rfl)
            try simp only [Act.put, List.setIfInBounds_toArray, List.set_cons_zero, List.set_cons_succ]
            refine wpAnyH_ready (rs := [14]) (by kernel_rfl) (by simp) ?_
            refine AllReadyH.cons (o := { dst := none, op := Go.Op.store 3 (Go.Operand.tmp 112) (Go.Operand.tmp 102), type := 0, pos := "ref.go:131", after := #[{ on := 13, ground := Go.Ground.data }, { on := 3, ground := Go.Ground.data }, { on := 11, ground := Go.Ground.chain }, { on := 0, ground := Go.Ground.phase }, { on := 1, ground := Go.Ground.textOnly Go.Departure.lateStores }, { on := 2, ground := Go.Ground.textOnly Go.Departure.lateStores }, { on := 3, ground := Go.Ground.phase }, { on := 4, ground := Go.Ground.textOnly Go.Departure.lateStores }, { on := 5, ground := Go.Ground.textOnly Go.Departure.lateStoresUnsure }, { on := 6, ground := Go.Ground.textOnly Go.Departure.lateStoresUnsure }, { on := 7, ground := Go.Ground.phase }, { on := 8, ground := Go.Ground.textOnly Go.Departure.lateStoresUnsure }, { on := 9, ground := Go.Ground.textOnly Go.Departure.lateStoresUnsure }, { on := 10, ground := Go.Ground.textOnly Go.Departure.lateStores }, { on := 11, ground := Go.Ground.phase }], guard := none }) rfl (fun KQ hKQ => ?_) AllReadyH.nil
            go_simp
            refine hKQ.out _ _ ?s_14t4 (fun hHeld14 => ?_)
            case s_14t4 => trivial
            clear hKQ KQ
            try simp only [Act.put]
            refine wpAnyH_take (i := 15) (oi := { dst := some 113, op := Go.Op.nilCheck (Go.Operand.tmp 100), type := 0, pos := "ref.go:131", after := #[{ on := 1, ground := Go.Ground.data }, { on := 0, ground := Go.Ground.phase }, { on := 1, ground := Go.Ground.phase }, { on := 2, ground := Go.Ground.textOnly Go.Departure.lateStores }, { on := 3, ground := Go.Ground.phase }, { on := 4, ground := Go.Ground.phase }, { on := 5, ground := Go.Ground.phase }, { on := 6, ground := Go.Ground.phase }, { on := 7, ground := Go.Ground.phase }, { on := 8, ground := Go.Ground.phase }, { on := 9, ground := Go.Ground.textOnly Go.Departure.lateStoresUnsure }, { on := 10, ground := Go.Ground.textOnly Go.Departure.lateStores }, { on := 11, ground := Go.Ground.phase }, { on := 12, ground := Go.Ground.phase }, { on := 13, ground := Go.Ground.phase }, { on := 14, ground := Go.Ground.phase }], guard := none }) (v := ?v_15t4) rfl (by kernel_rfl) (by kernel_rfl) (by kernel_rfl) (fun _ _ _ h => h) (Or.inl ⟨by rfl, ?y_15t4⟩) (by assumption) ?_
            case y_15t4 => (intro wq hSw; (try dsimp only at hSw); go_simp; first | done | with_reducible rfl)
            try simp only [Act.put, List.setIfInBounds_toArray, List.set_cons_zero, List.set_cons_succ]
            refine wpAnyH_take (i := 16) (oi := { dst := some 114, op := Go.Op.fieldAddr 80 (Go.Operand.tmp 113) 2, type := 0, pos := "ref.go:131", after := #[{ on := 15, ground := Go.Ground.data }, { on := 0, ground := Go.Ground.phase }, { on := 1, ground := Go.Ground.phase }, { on := 2, ground := Go.Ground.textOnly Go.Departure.lateStores }, { on := 3, ground := Go.Ground.phase }, { on := 4, ground := Go.Ground.phase }, { on := 5, ground := Go.Ground.phase }, { on := 6, ground := Go.Ground.phase }, { on := 7, ground := Go.Ground.phase }, { on := 8, ground := Go.Ground.phase }, { on := 9, ground := Go.Ground.textOnly Go.Departure.lateStoresUnsure }, { on := 10, ground := Go.Ground.textOnly Go.Departure.lateStores }, { on := 11, ground := Go.Ground.phase }, { on := 12, ground := Go.Ground.phase }, { on := 13, ground := Go.Ground.phase }, { on := 14, ground := Go.Ground.phase }], guard := none }) (v := ?v_16t4) rfl (by kernel_rfl) (by kernel_rfl) (by kernel_rfl) (fun _ _ _ h => h) (Or.inl ⟨by rfl, ?y_16t4⟩) (by assumption) ?_
            case y_16t4 => (intro wq hSw; (try dsimp only at hSw); go_simp; first | done | with_reducible rfl)
            try simp only [Act.put, List.setIfInBounds_toArray, List.set_cons_zero, List.set_cons_succ]
            refine wpAnyH_ready (rs := [17]) (by kernel_rfl) (by simp) ?_
            refine AllReadyH.cons (o := { dst := none, op := Go.Op.store 58 (Go.Operand.tmp 114) (Go.Operand.tmp 107), type := 0, pos := "ref.go:131", after := #[{ on := 16, ground := Go.Ground.data }, { on := 8, ground := Go.Ground.data }, { on := 14, ground := Go.Ground.chain }, { on := 0, ground := Go.Ground.phase }, { on := 1, ground := Go.Ground.phase }, { on := 2, ground := Go.Ground.textOnly Go.Departure.lateStores }, { on := 3, ground := Go.Ground.phase }, { on := 4, ground := Go.Ground.phase }, { on := 5, ground := Go.Ground.phase }, { on := 6, ground := Go.Ground.phase }, { on := 7, ground := Go.Ground.phase }, { on := 8, ground := Go.Ground.phase }, { on := 9, ground := Go.Ground.textOnly Go.Departure.lateStoresUnsure }, { on := 10, ground := Go.Ground.textOnly Go.Departure.lateStores }, { on := 11, ground := Go.Ground.phase }, { on := 12, ground := Go.Ground.phase }, { on := 13, ground := Go.Ground.phase }, { on := 14, ground := Go.Ground.phase }], guard := none }) rfl (fun KQ hKQ => ?_) AllReadyH.nil
            go_simp
            refine hKQ.out _ _ ?s_17t4 (fun hHeld17 => ?_)
            case s_17t4 => trivial
            clear hKQ KQ
            try simp only [Act.put]
            refine wpAnyH_take (i := 18) (oi := { dst := some 115, op := Go.Op.nilCheck (Go.Operand.tmp 101), type := 0, pos := "ref.go:131", after := #[{ on := 2, ground := Go.Ground.data }, { on := 0, ground := Go.Ground.phase }, { on := 1, ground := Go.Ground.phase }, { on := 2, ground := Go.Ground.phase }, { on := 3, ground := Go.Ground.phase }, { on := 4, ground := Go.Ground.phase }, { on := 5, ground := Go.Ground.phase }, { on := 6, ground := Go.Ground.phase }, { on := 7, ground := Go.Ground.phase }, { on := 8, ground := Go.Ground.phase }, { on := 9, ground := Go.Ground.phase }, { on := 10, ground := Go.Ground.phase }, { on := 11, ground := Go.Ground.phase }, { on := 12, ground := Go.Ground.phase }, { on := 13, ground := Go.Ground.phase }, { on := 14, ground := Go.Ground.phase }, { on := 15, ground := Go.Ground.phase }, { on := 16, ground := Go.Ground.phase }, { on := 17, ground := Go.Ground.phase }], guard := none }) (v := ?v_18t4) rfl (by kernel_rfl) (by kernel_rfl) (by kernel_rfl) (fun _ _ _ h => h) (Or.inl ⟨by rfl, ?y_18t4⟩) (by assumption) ?_
            case y_18t4 => (intro wq hSw; (try dsimp only at hSw); go_simp; first | done | with_reducible rfl)
            try simp only [Act.put, List.setIfInBounds_toArray, List.set_cons_zero, List.set_cons_succ]
            refine wpAnyH_take (i := 19) (oi := { dst := some 116, op := Go.Op.fieldAddr 80 (Go.Operand.tmp 115) 3, type := 0, pos := "ref.go:131", after := #[{ on := 18, ground := Go.Ground.data }, { on := 0, ground := Go.Ground.phase }, { on := 1, ground := Go.Ground.phase }, { on := 2, ground := Go.Ground.phase }, { on := 3, ground := Go.Ground.phase }, { on := 4, ground := Go.Ground.phase }, { on := 5, ground := Go.Ground.phase }, { on := 6, ground := Go.Ground.phase }, { on := 7, ground := Go.Ground.phase }, { on := 8, ground := Go.Ground.phase }, { on := 9, ground := Go.Ground.phase }, { on := 10, ground := Go.Ground.phase }, { on := 11, ground := Go.Ground.phase }, { on := 12, ground := Go.Ground.phase }, { on := 13, ground := Go.Ground.phase }, { on := 14, ground := Go.Ground.phase }, { on := 15, ground := Go.Ground.phase }, { on := 16, ground := Go.Ground.phase }, { on := 17, ground := Go.Ground.phase }], guard := none }) (v := ?v_19t4) rfl (by kernel_rfl) (by kernel_rfl) (by kernel_rfl) (fun _ _ _ h => h) (Or.inl ⟨by rfl, ?y_19t4⟩) (by assumption) ?_
            case y_19t4 => (intro wq hSw; (try dsimp only at hSw); go_simp; first | done | with_reducible rfl)
            try simp only [Act.put, List.setIfInBounds_toArray, List.set_cons_zero, List.set_cons_succ]
            refine wpAnyH_ready (rs := [20]) (by kernel_rfl) (by simp) ?_
            refine AllReadyH.cons (o := { dst := none, op := Go.Op.store 44 (Go.Operand.tmp 116) (Go.Operand.tmp 110), type := 0, pos := "ref.go:131", after := #[{ on := 19, ground := Go.Ground.data }, { on := 11, ground := Go.Ground.data }, { on := 17, ground := Go.Ground.chain }, { on := 0, ground := Go.Ground.phase }, { on := 1, ground := Go.Ground.phase }, { on := 2, ground := Go.Ground.phase }, { on := 3, ground := Go.Ground.phase }, { on := 4, ground := Go.Ground.phase }, { on := 5, ground := Go.Ground.phase }, { on := 6, ground := Go.Ground.phase }, { on := 7, ground := Go.Ground.phase }, { on := 8, ground := Go.Ground.phase }, { on := 9, ground := Go.Ground.phase }, { on := 10, ground := Go.Ground.phase }, { on := 11, ground := Go.Ground.phase }, { on := 12, ground := Go.Ground.phase }, { on := 13, ground := Go.Ground.phase }, { on := 14, ground := Go.Ground.phase }, { on := 15, ground := Go.Ground.phase }, { on := 16, ground := Go.Ground.phase }, { on := 17, ground := Go.Ground.phase }], guard := none }) rfl (fun KQ hKQ => ?_) AllReadyH.nil
            go_simp
            refine hKQ.out _ _ ?s_20t4 (fun hHeld20 => ?_)
            case s_20t4 => trivial
            clear hKQ KQ
            try simp only [Act.put]
            refine wpAnyH_done (by kernel_rfl) ?_ _
            go_wp2_with fail
            go_ret
            rw [HO6.out]
            rw [Nat.zero_add] at *
            exact rw_end HZ3.out HCH3.out hbz hO7 hB7
          · rw [if_pos (by rfl)]
            refine wp_append_vf (.tmp 108) (.tmp 109) 44 rfl z3.heap.size 9 (.string ⟨#[]⟩) 16 Try.underlying44 infoS rfl _ 0 0 [] rfl rfl HOE.out _ A j c _ rfl HRE.out HONE.out (by omega) (by unfold maxLen; omega) (by simp) ?_
            intro A7 c7 w7 hO7 hB7 hG7 hN7
            have hF7 : Blk 80 w7 p (rwV X g v) := (hG7.block p HFE.out.lt (fun e => HNE.out.1 e.symm)).trans HFE.out
            have c71 := hF7.cell 1
            have c72 := hF7.cell 2
            have c73 := hF7.cell 3
            have f71 := hF7.frozen 1
            have f72 := hF7.frozen 2
            have f73 := hF7.frozen 3
            unfold rwV at c71 c72 c73
            simp only [List.getElem?_cons_zero, List.getElem?_cons_succ] at c71 c72 c73
            refine hKQ.out _ _ ?s_11t3 (fun hHeld11 => ?_)
            case s_11t3 => trivial
            clear hKQ KQ
            try simp only [Act.put, List.setIfInBounds_toArray, List.set_cons_zero, List.set_cons_succ]
            refine wpAnyH_ready (rs := [7]) (by kernel_rfl) (by simp) ?_
            refine AllReadyH.cons (o := { dst := some 106, op := Go.Op.load 58 (Go.Operand.tmp 105), type := 58, pos := "ref.go:131", after := #[{ on := 6, ground := Go.Ground.data }], guard := none }) rfl (fun KQ hKQ => ?_) AllReadyH.nil
            go_simp
            refine hKQ.out _ _ ?s_7t5 (fun hHeld7 => ?_)
            case s_7t5 => trivial
            clear hKQ KQ
            try simp only [Act.put, List.setIfInBounds_toArray, List.set_cons_zero, List.set_cons_succ]
            refine wpAnyH_take (i := 8) (oi := { dst := some 107, op := Go.Op.binOp Go.BinOp.add 58 (Go.Operand.tmp 106) (Go.Operand.const (Go.Value.int Go.IntKind.u64 1)) 58, type := 58, pos := "ref.go:131", after := #[{ on := 7, ground := Go.Ground.data }], guard := none }) (v := ?v_8t5) rfl (by kernel_rfl) (by kernel_rfl) (by kernel_rfl) (fun _ _ _ h => h) (Or.inl ⟨by rfl, ?y_8t5⟩) (by assumption) ?_
            case y_8t5 => (intro wq hSw; (try dsimp only at hSw); go_simp; first | done | with_reducible rfl)
            try simp only [Act.put, List.setIfInBounds_toArray, List.set_cons_zero, List.set_cons_succ]
            refine wpAnyH_take (i := 12) (oi := { dst := some 111, op := Go.Op.nilCheck (Go.Operand.tmp 99), type := 0, pos := "ref.go:131", after := #[{ on := 0, ground := Go.Ground.data }, { on := 0, ground := Go.Ground.phase }, { on := 1, ground := Go.Ground.textOnly Go.Departure.lateStores }, { on := 2, ground := Go.Ground.textOnly Go.Departure.lateStores }, { on := 3, ground := Go.Ground.phase }, { on := 4, ground := Go.Ground.textOnly Go.Departure.lateStores }, { on := 5, ground := Go.Ground.textOnly Go.Departure.lateStoresUnsure }, { on := 6, ground := Go.Ground.textOnly Go.Departure.lateStoresUnsure }, { on := 7, ground := Go.Ground.phase }, { on := 8, ground := Go.Ground.textOnly Go.Departure.lateStoresUnsure }, { on := 9, ground := Go.Ground.textOnly Go.Departure.lateStoresUnsure }, { on := 10, ground := Go.Ground.textOnly Go.Departure.lateStores }, { on := 11, ground := Go.Ground.phase }], guard := none }) (v := ?v_12t5) rfl (by kernel_rfl) (by kernel_rfl) (by kernel_rfl) (fun _ _ _ h => h) (Or.inl ⟨by rfl, ?y_12t5⟩) (by assumption) ?_
            case y_12t5 => (intro wq hSw; (try dsimp only at hSw); go_simp; first | done | with_reducible rfl)
            try simp only [Act.put, List.setIfInBounds_toArray, List.set_cons_zero, List.set_cons_succ]
            refine wpAnyH_take (i := 13) (oi := { dst := some 112, op := Go.Op.fieldAddr 80 (Go.Operand.tmp 111) 1, type := 0, pos := "ref.go:131", after := #[{ on := 12, ground := Go.Ground.data }, { on := 0, ground := Go.Ground.phase }, { on := 1, ground := Go.Ground.textOnly Go.Departure.lateStores }, { on := 2, ground := Go.Ground.textOnly Go.Departure.lateStores }, { on := 3, ground := Go.Ground.phase }, { on := 4, ground := Go.Ground.textOnly Go.Departure.lateStores }, { on := 5, ground := Go.Ground.textOnly Go.Departure.lateStoresUnsure }, { on := 6, ground := Go.Ground.textOnly Go.Departure.lateStoresUnsure }, { on := 7, ground := Go.Ground.phase }, { on := 8, ground := Go.Ground.textOnly Go.Departure.lateStoresUnsure }, { on := 9, ground := Go.Ground.textOnly Go.Departure.lateStoresUnsure }, { on := 10, ground := Go.Ground.textOnly Go.Departure.lateStores }, { on := 11, ground := Go.Ground.phase }], guard := none }) (v := ?v_13t5) rfl (by kernel_rfl) (by kernel_rfl) (by kernel_rfl) (fun _ _ _ h => h) (Or.inl ⟨by rfl, ?y_13t5⟩) (by assumption) ?_
            case y_13t5 => (intro wq hSw; (try dsimp only at hSw); go_simp; first | done | with_reducible rfl)
            try simp only [Act.put, List.setIfInBounds_toArray, List.set_cons_zero, List.set_cons_succ]
            refine wpAnyH_ready (rs := [14]) (by kernel_rfl) (by simp) ?_
            refine AllReadyH.cons (o := { dst := none, op := Go.Op.store 3 (Go.Operand.tmp 112) (Go.Operand.tmp 102), type := 0, pos := "ref.go:131", after := #[{ on := 13, ground := Go.Ground.data }, { on := 3, ground := Go.Ground.data }, { on := 11, ground := Go.Ground.chain }, { on := 0, ground := Go.Ground.phase }, { on := 1, ground := Go.Ground.textOnly Go.Departure.lateStores }, { on := 2, ground := Go.Ground.textOnly Go.Departure.lateStores }, { on := 3, ground := Go.Ground.phase }, { on := 4, ground := Go.Ground.textOnly Go.Departure.lateStores }, { on := 5, ground := Go.Ground.textOnly Go.Departure.lateStoresUnsure }, { on := 6, ground := Go.Ground.textOnly Go.Departure.lateStoresUnsure }, { on := 7, ground := Go.Ground.phase }, { on := 8, ground := Go.Ground.textOnly Go.Departure.lateStoresUnsure }, { on := 9, ground := Go.Ground.textOnly Go.Departure.lateStoresUnsure }, { on := 10, ground := Go.Ground.textOnly Go.Departure.lateStores }, { on := 11, ground := Go.Ground.phase }], guard := none }) rfl (fun KQ hKQ => ?_) AllReadyH.nil
            go_simp
            refine hKQ.out _ _ ?s_14t5 (fun hHeld14 => ?_)
            case s_14t5 => trivial
            clear hKQ KQ
            try simp only [Act.put]
            refine wpAnyH_take (i := 15) (oi := { dst := some 113, op := Go.Op.nilCheck (Go.Operand.tmp 100), type := 0, pos := "ref.go:131", after := #[{ on := 1, ground := Go.Ground.data }, { on := 0, ground := Go.Ground.phase }, { on := 1, ground := Go.Ground.phase }, { on := 2, ground := Go.Ground.textOnly Go.Departure.lateStores }, { on := 3, ground := Go.Ground.phase }, { on := 4, ground := Go.Ground.phase }, { on := 5, ground := Go.Ground.phase }, { on := 6, ground := Go.Ground.phase }, { on := 7, ground := Go.Ground.phase }, { on := 8, ground := Go.Ground.phase }, { on := 9, ground := Go.Ground.textOnly Go.Departure.lateStoresUnsure }, { on := 10, ground := Go.Ground.textOnly Go.Departure.lateStores }, { on := 11, ground := Go.Ground.phase }, { on := 12, ground := Go.Ground.phase }, { on := 13, ground := Go.Ground.phase }, { on := 14, ground := Go.Ground.phase }], guard := none }) (v := ?v_15t5) rfl (by kernel_rfl) (by kernel_rfl) (by kernel_rfl) (fun _ _ _ h => h) (Or.inl ⟨by rfl, ?y_15t5⟩) (by assumption) ?_
            case y_15t5 => (intro wq hSw; (try dsimp only at hSw); go_simp; first | done | with_reducible rfl)
            try simp only [Act.put, List.setIfInBounds_toArray, List.set_cons_zero, List.set_cons_succ]
            refine wpAnyH_take (i := 16) (oi := { dst := some 114, op := Go.Op.fieldAddr 80 (Go.Operand.tmp 113) 2, type := 0, pos := "ref.go:131", after := #[{ on := 15, ground := Go.Ground.data }, { on := 0, ground := Go.Ground.phase }, { on := 1, ground := Go.Ground.phase }, { on := 2, ground := Go.Ground.textOnly Go.Departure.lateStores }, { on := 3, ground := Go.Ground.phase }, { on := 4, ground := Go.Ground.phase }, { on := 5, ground := Go.Ground.phase }, { on := 6, ground := Go.Ground.phase }, { on := 7, ground := Go.Ground.phase }, { on := 8, ground := Go.Ground.phase }, { on := 9, ground := Go.Ground.textOnly Go.Departure.lateStoresUnsure }, { on := 10, ground := Go.Ground.textOnly Go.Departure.lateStores }, { on := 11, ground := Go.Ground.phase }, { on := 12, ground := Go.Ground.phase }, { on := 13, ground := Go.Ground.phase }, { on := 14, ground := Go.Ground.phase }], guard := none }) (v := ?v_16t5) rfl (by kernel_rfl) (by kernel_rfl) (by kernel_rfl) (fun _ _ _ h => h) (Or.inl ⟨by rfl, ?y_16t5⟩) (by assumption) ?_
            case y_16t5 => (intro wq hSw; (try dsimp only at hSw); go_simp; first | done | with_reducible rfl)
            try simp only [Act.put, List.setIfInBounds_toArray, List.set_cons_zero, List.set_cons_succ]
            refine wpAnyH_ready (rs := [17]) (by kernel_rfl) (by simp) ?_
            refine AllReadyH.cons (o := { dst := none, op := Go.Op.store 58 (Go.Operand.tmp 114) (Go.Operand.tmp 107), type := 0, pos := "ref.go:131", after := #[{ on := 16, ground := Go.Ground.data }, { on := 8, ground := Go.Ground.data }, { on := 14, ground := Go.Ground.chain }, { on := 0, ground := Go.Ground.phase }, { on := 1, ground := Go.Ground.phase }, { on := 2, ground := Go.Ground.textOnly Go.Departure.lateStores }, { on := 3, ground := Go.Ground.phase }, { on := 4, ground := Go.Ground.phase }, { on := 5, ground := Go.Ground.phase }, { on := 6, ground := Go.Ground.phase }, { on := 7, ground := Go.Ground.phase }, { on := 8, ground := Go.Ground.phase }, { on := 9, ground := Go.Ground.textOnly Go.Departure.lateStoresUnsure }, { on := 10, ground := Go.Ground.textOnly Go.Departure.lateStores }, { on := 11, ground := Go.Ground.phase }, { on := 12, ground := Go.Ground.phase }, { on := 13, ground := Go.Ground.phase }, { on := 14, ground := Go.Ground.phase }], guard := none }) rfl (fun KQ hKQ => ?_) AllReadyH.nil
            go_simp
            refine hKQ.out _ _ ?s_17t5 (fun hHeld17 => ?_)
            case s_17t5 => trivial
            clear hKQ KQ
            try simp only [Act.put]
            refine wpAnyH_take (i := 18) (oi := { dst := some 115, op := Go.Op.nilCheck (Go.Operand.tmp 101), type := 0, pos := "ref.go:131", after := #[{ on := 2, ground := Go.Ground.data }, { on := 0, ground := Go.Ground.phase }, { on := 1, ground := Go.Ground.phase }, { on := 2, ground := Go.Ground.phase }, { on := 3, ground := Go.Ground.phase }, { on := 4, ground := Go.Ground.phase }, { on := 5, ground := Go.Ground.phase }, { on := 6, ground := Go.Ground.phase }, { on := 7, ground := Go.Ground.phase }, { on := 8, ground := Go.Ground.phase }, { on := 9, ground := Go.Ground.phase }, { on := 10, ground := Go.Ground.phase }, { on := 11, ground := Go.Ground.phase }, { on := 12, ground := Go.Ground.phase }, { on := 13, ground := Go.Ground.phase }, { on := 14, ground := Go.Ground.phase }, { on := 15, ground := Go.Ground.phase }, { on := 16, ground := Go.Ground.phase }, { on := 17, ground := Go.Ground.phase }], guard := none }) (v := ?v_18t5) rfl (by kernel_rfl) (by kernel_rfl) (by kernel_rfl) (fun _ _ _ h => h) (Or.inl ⟨by rfl, ?y_18t5⟩) (by assumption) ?_
            case y_18t5 => (intro wq hSw; (try dsimp only at hSw); go_simp; first | done | with_reducible rfl)
            try simp only [Act.put, List.setIfInBounds_toArray, List.set_cons_zero, List.set_cons_succ]
            refine wpAnyH_take (i := 19) (oi := { dst := some 116, op := Go.Op.fieldAddr 80 (Go.Operand.tmp 115) 3, type := 0, pos := "ref.go:131", after := #[{ on := 18, ground := Go.Ground.data }, { on := 0, ground := Go.Ground.phase }, { on := 1, ground := Go.Ground.phase }, { on := 2, ground := Go.Ground.phase }, { on := 3, ground := Go.Ground.phase }, { on := 4, ground := Go.Ground.phase }, { on := 5, ground := Go.Ground.phase }, { on := 6, ground := Go.Ground.phase }, { on := 7, ground := Go.Ground.phase }, { on := 8, ground := Go.Ground.phase }, { on := 9, ground := Go.Ground.phase }, { on := 10, ground := Go.Ground.phase }, { on := 11, ground := Go.Ground.phase }, { on := 12, ground := Go.Ground.phase }, { on := 13, ground := Go.Ground.phase }, { on := 14, ground := Go.Ground.phase }, { on := 15, ground := Go.Ground.phase }, { on := 16, ground := Go.Ground.phase }, { on := 17, ground := Go.Ground.phase }], guard := none }) (v := ?v_19t5) rfl (by kernel_rfl) (by kernel_rfl) (by kernel_rfl) (fun _ _ _ h => h) (Or.inl ⟨by rfl, ?y_19t5⟩) (by assumption) ?_
            case y_19t5 => (intro wq hSw; (try dsimp only at hSw); go_simp; first | done | with_reducible rfl)
            try simp only [Act.put, List.setIfInBounds_toArray, List.set_cons_zero, List.set_cons_succ]
            refine wpAnyH_ready (rs := [20]) (by kernel_rfl) (by simp) ?_
            refine AllReadyH.cons (o := { dst := none, op := Go.Op.store 44 (Go.Operand.tmp 116) (Go.Operand.tmp 110), type := 0, pos := "ref.go:131", after := #[{ on := 19, ground := Go.Ground.data }, { on := 11, ground := Go.Ground.data }, { on := 17, ground := Go.Ground.chain }, { on := 0, ground := Go.Ground.phase }, { on := 1, ground := Go.Ground.phase }, { on := 2, ground := Go.Ground.phase }, { on := 3, ground := Go.Ground.phase }, { on := 4, ground := Go.Ground.phase }, { on := 5, ground := Go.Ground.phase }, { on := 6, ground := Go.Ground.phase }, { on := 7, ground := Go.Ground.phase }, { on := 8, ground := Go.Ground.phase }, { on := 9, ground := Go.Ground.phase }, { on := 10, ground := Go.Ground.phase }, { on := 11, ground := Go.Ground.phase }, { on := 12, ground := Go.Ground.phase }, { on := 13, ground := Go.Ground.phase }, { on := 14, ground := Go.Ground.phase }, { on := 15, ground := Go.Ground.phase }, { on := 16, ground := Go.Ground.phase }, { on := 17, ground := Go.Ground.phase }], guard := none }) rfl (fun KQ hKQ => ?_) AllReadyH.nil
            go_simp
            refine hKQ.out _ _ ?s_20t5 (fun hHeld20 => ?_)
            case s_20t5 => trivial
            clear hKQ KQ
            try simp only [Act.put]
            refine wpAnyH_done (by kernel_rfl) ?_ _
            go_wp2_with fail
            go_ret
            rw [HO6.out]
            rw [Nat.zero_add] at *
            exact rw_end HZ3.out HCH3.out hbz hO7 hB7
end Go.Proofs.Ytafdgibkhefplaa.ref5
