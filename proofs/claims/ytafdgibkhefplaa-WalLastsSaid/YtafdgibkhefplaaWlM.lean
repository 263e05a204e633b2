/- What the program's own log's methods come to: Append, Sync, Rewrite, Count, Bytes. Conditions: those that each theorem names. -/
import Derived.Test.YtafdgibkhefplaaWl2
import Derived.Test.YtafdgibkhefplaaOfs
namespace Go.Proofs.Ytafdgibkhefplaa.wal
open Go.RowKit Go.Proofs.Ytafdgibkhefplaa.kit Go.Proofs.Ytafdgibkhefplaa.nums Go.Proofs.Ytafdgibkhefplaa.ds Go.Proofs.Ytafdgibkhefplaa.disk Go.Proofs.Ytafdgibkhefplaa.ws Go.Proofs.Ytafdgibkhefplaa.rec_ Go.Proofs.Ytafdgibkhefplaa.bytes Go.Proofs.Ytafdgibkhefplaa.ofs
set_option linter.unusedVariables false

/-- The blocks of the log and of its disk. -/
def Or2 (fw fd : Nat → Prop) (k : Nat) : Prop := fw k ∨ fd k
/-- A log and its disk. -/
structure Log (w : World) (p a : Nat) (X : WS) (D : DS) (fw fd : Nat → Prop) : Prop where
  wal : IsWal w p a X fw
  disk : IsDisk w a D fd
  apart : ∀ k, fw k → ¬ fd k
/-- What a slice reads as, whatever becomes of the blocks fp. -/
def Safe (w : World) (fp : Nat → Prop) (R : World → Prop) : Prop := ∀ W : World, w.heap.size ≤ W.heap.size → (∀ k, k < w.heap.size → ¬ fp k → W.heap[k]? = w.heap[k]?) → R W
/-- What a call ends in that turns the log and its disk alone. -/
def RetW (w : World) (p a : Nat) (fw fd : Nat → Prop) (o : Out) (e : Ending) (w' : World) : Prop :=
  ∃ fw' fd', e = .returned (.int .i64 o.e) ∧ Log w' p a o.X o.D fw' fd' ∧ Chg (Or2 fw fd) (Or2 fw' fd') w w' ∧ (∀ k, fw' k → fw k ∨ w.heap.size ≤ k) ∧ (∀ k, fd' k → fd k ∨ w.heap.size ≤ k)
/-- From w0, where the disk has the blocks fd0, to w: what is the log's, and the disk's, then. -/
structure St (w0 : World) (p a : Nat) (fd0 : Nat → Prop) (w : World) (X : WS) (D : DS) (fd : Nat → Prop) : Prop where
  blk : Blk 60 w p (cellsW a X)
  disk : IsDisk w a D fd
  apart : ¬ fd p
  chg : Chg (Or2 (fun k => k = p) fd0) (Or2 (fun k => k = p) fd) w0 w
  new : ∀ k, fd k → fd0 k ∨ w0.heap.size ≤ k
section
variable {w0 w w' : World} {p a : Nat} {X X' : WS} {D D' : DS} {fd0 fd fd' : Nat → Prop}
theorem St.start (hb : Blk 60 w p (cellsW a X)) (hd : IsDisk w a D fd) (ha : ¬ fd p) : St w p a fd w X D fd := ⟨hb, hd, ha, Chg.rfl_, fun k h => .inl h⟩
theorem St.below (h : St w0 p a fd0 w X D fd) (hB : Below w.heap.size w w') : St w0 p a fd0 w' X D fd :=
  ⟨Blk.below h.blk hB h.blk.lt, h.disk.keep (fun k hk => hB.block k (h.disk.lt k hk)), h.apart, h.chg.trans (Chg.of_below hB), h.new⟩
theorem St.drewN (h : St w0 p a fd0 w X D fd) (q : Nat) : St w0 p a fd0 (w.drewN q) X D fd := h.below (below_drewN (Below.refl _ _) q)
theorem St.self (h : St w0 p a fd0 w X D fd) (hG : w.grownBy w' (some p)) (hb : Blk 60 w' p (cellsW a X')) : St w0 p a fd0 w' X' D fd :=
  ⟨hb, h.disk.keep (fun k hk => hG.block k (h.disk.lt k hk) (by intro e; simp at e; exact h.apart (e ▸ hk))), h.apart, h.chg.trans (Chg.of_grown hG (.inl rfl)), h.new⟩
theorem St.disk_ (h : St w0 p a fd0 w X D fd) (hd : IsDisk w' a D' fd') (hC : Chg fd fd' w w') : St w0 p a fd0 w' X D' fd' :=
  ⟨(hC.block p h.blk.lt h.apart).trans h.blk, hd, fun hp => by
    rcases hC.new p hp with h1 | h1
    · exact h.apart h1
    · have := h.blk.lt; omega,
   h.chg.trans ⟨hC.os, hC.tape, hC.output, hC.size, fun k hk hn => hC.block k hk (fun h1 => hn (.inr h1)), fun k hk => by
    rcases hk with h1 | h1
    · exact .inl (.inl h1)
    · rcases hC.new k h1 with h2 | h2
      · exact .inl (.inr h2)
      · exact .inr h2⟩,
   fun k hk => by
    rcases hC.new k hk with h1 | h1
    · exact h.new k h1
    · exact .inr (Nat.le_trans h.chg.size h1)⟩
theorem St.ret (h : St w0 p a fd0 w X D fd) {e : Int} : RetW w0 p a (fun k => k = p) fd0 ⟨e, X, D⟩ (.returned (.int .i64 e)) w :=
  ⟨fun k => k = p, fd, rfl, ⟨⟨h.blk, rfl⟩, h.disk, fun k hk => hk ▸ h.apart⟩, h.chg, fun k hk => .inl hk, h.new⟩
end
theorem app_same {D : DS} {f : Int} {B B' : List Int} (h : 4194304 < B.length) (h' : 4194304 < B'.length) : D.appE f B = D.appE f B' ∧ D.appS f B = D.appS f B' := by
  have f1 : D.full f B.length := by unfold DS.full; omega
  have f2 : D.full f B'.length := by unfold DS.full; omega
  unfold DS.appE DS.appS
  rw [if_pos f1, if_pos f1, if_pos f2, if_pos f2]
  exact ⟨rfl, rfl⟩
theorem c3_ {w : World} {p a : Nat} {X : WS} (h : Blk 60 w p (cellsW a X)) (hf : X.file ≠ -1) : w.cell? ⟨p, 3, none⟩ = some (.int .i64 X.file) := by rw [c3 h, if_neg hf]
theorem mayE_cons (X : WS) (D : DS) (L : List (List Int)) : mayE X D L = 0 ∨ mayE X D L ≠ 0 := by omega

set_option maxRecDepth 100000 in
set_option maxHeartbeats 1000000 in
theorem append_in (p a : Nat) (X : WS) (D : DS) (fd : Nat → Prop) (w : World) (hb : Blk 60 w p (cellsW a X)) (hd : IsDisk w a D fd) (hap : ¬ fd p) (hD : D.Good) (hs : D.stepped ≤ 999000) (hp : D.powers ≤ 1000000) (hF : Fit X D) (hf : X.file ≠ -1)
    (A : Option Addr) (n c : Nat) (l : List Int) (hR : Rd w w.heap.size A n l) (hY : Byt l) (hn : n ≤ 1099511627776) (hnc : n ≤ c) (hcm : c ≤ maxLen) :
    Calls Try.prog 20 #[.pointer (some ⟨p, 0, none⟩), .slice A n c] w (RetW w p a (fun k => k = p) fd (appendO X D l)) := by
  have HN := Lib.hid hR.len
  have hlife := hF.life
  have hm := hF.many
  have hs1 := hF.s1
  have hfi := hF.file
  have hB1 : Below w.heap.size w (w.alloc (.cells #[.slice A n c] 35)) := (Below.refl _ _).alloc (Nat.le_refl _) _
  have H1 := Lib.hid ((St.start hb hd hap).below hB1)
  have hR1 := hR.on hB1 hB1.size
  have CK := Lib.hid (check_any p a X D fd _ H1.out.blk H1.out.disk hD (by omega) hp hlife (some ⟨w.heap.size, 0, none⟩) 1 1 [l] (by
    have := rds_one (w := w) (E := 35) (x := .slice A n c) (l := l) ⟨A, c, by rw [HN.out], by rw [HN.out]; exact hnc, hcm, by rw [HN.out]; exact hR⟩
    simpa using this) (by omega))
  have HO := Lib.hid (show appendO X D l = if mayE X D [l] ≠ 0 then ⟨mayE X D [l], X, D⟩ else if D.appE X.file (recR l) ≠ 0 then halt X (D.appS X.file (recR l)) (D.appE X.file (recR l)) else ⟨0, { X with recs := X.recs ++ [l], size := X.size + (recR l).length }, D.appS X.file (recR l)⟩ from rfl)
  clear hb hd hR
  go_enter Try.func20, Try.ntmps20
  go_wp2_with fail
  refine CK.out.mono ?_
  clear CK
  rintro e w2 ⟨rfl, q, hw2⟩
  have H2 : Hid (St w p a fd w2 X D fd) := by rw [hw2]; exact H1.out.drewN q
  have hR2 : Rd w2 w2.heap.size A n l := by rw [hw2]; exact hR1
  clear hw2 H1 hR1 hB1
  by_cases hm0 : mayE X D [l] ≠ 0
  · have HO2 := Lib.hid (HO.out.trans (if_pos hm0))
    generalize mayE X D [l] = x at *
    have hne : (x != 0) = true := by simpa using hm0
    clear HO hm0
    go_wp2_with fail
    go_ret
    rw [HO2.out]
    exact H2.out.ret
  have HO2 := Lib.hid (HO.out.trans (if_neg hm0))
  have hm1 : mayE X D [l] = 0 := by simpa using hm0
  have hl5 := (may_ok hm1).2 l (List.mem_singleton.2 rfl)
  rw [HN.out] at hl5
  rw [hm1]
  have C := Lib.hid (put_any w2.heap.size none 0 0 [] 82 A n c l w2 (Own.nil _ _ _) rfl (Nat.le_refl _) hR2 ((Byt.one (by decide) (by decide) : Byt [82]).append hY) (by omega) hl5)
  clear HO hm0 hm1 hR2
  go_wp2_with fail
  refine C.out.mono ?_
  clear C
  rintro e w3 ⟨A3, c3, rfl, hl3, hO3, hB3⟩
  rw [List.nil_append, Nat.zero_add] at hl3 hO3
  rw [Nat.zero_add]
  have H3 := Lib.hid (H2.out.below hB3)
  have hc3 := hO3.caps hl3
  have hRB : Byt (recR l) := recR_byt hY
  have H3 := Lib.hid (show St w p a fd w3.drew X D fd from H3.out.drewN 1)
  have C := Lib.hid (disk.append_any a D fd w3.drew H3.out.disk hD (by omega) hp X.file A3 (8 + (1 + n)) c3 (recR l) (show Rd w3.drew w3.drew.heap.size _ _ _ from hO3.rd hl3) hRB (by omega) hc3.1 hc3.2 (fun h0 b o e hk => by
    obtain ⟨g, hg, hge⟩ := hO3.form h0
    have := H2.out.disk.lt b hk
    cases hg.symm.trans e
    omega))
  have d0 : w3.cell? _ = _ := c0 H3.out.blk
  have d3 : w3.cell? _ = _ := c3_ H3.out.blk hf
  have HL3 := Lib.hid (show (recR l).length = 8 + (1 + n) from hl3)
  clear hO3 hB3 hl3 H2
  generalize D.appE X.file (recR l) = x at *
  generalize D.appS X.file (recR l) = D4 at *
  go_wp2_with fail
  go_still_tail 9, (by kernel_rfl)
  change wpList _ _ _ _ _ w3.drew
  go_wp2_with fail
  refine C.out.mono ?_
  clear C
  rintro e w4 ⟨fd4, rfl, hd4, hC4⟩
  have H4 := Lib.hid (H3.out.disk_ hd4 hC4)
  clear H3 hd4 hC4 d0 d3
  by_cases hx : x ≠ 0
  · have HO3 := Lib.hid (HO2.out.trans (if_pos hx))
    have hne : (x != 0) = true := by simpa using hx
    have C := Lib.hid (fail_any p a X x w4 H4.out.blk)
    clear HO2
    go_wp2_with fail
    refine C.out.mono ?_
    clear C
    rintro e w5 ⟨rfl, hb5, hG5⟩
    go_wp2_with fail
    go_ret
    rw [HO3.out]
    exact (H4.out.self hG5 hb5).ret
  have HO3 := Lib.hid (HO2.out.trans (if_neg hx))
  obtain rfl : x = 0 := by simpa using hx
  have d5 := c5 H4.out.blk
  have d6 := c6 H4.out.blk
  have hfr := fun i => H4.out.blk.frozen i
  have HS := Lib.hid (show St w p a fd ((w4.setCell ⟨p, 5, none⟩ (.int .i64 ((X.recs.length : Int) + 1))).setCell ⟨p, 6, none⟩ (.int .i64 ((X.size : Int) + (8 + (1 + n) : Nat)))) { X with recs := X.recs ++ [l], size := X.size + (recR l).length } D4 fd4 from
    H4.out.self (grown_more (grown_more (World.grownBy.refl _ _) _ _) _ _) (by
      have := (H4.out.blk.set_ 5 (.int .i64 ((X.recs.length : Int) + 1))).set_ 6 (.int .i64 ((X.size : Int) + (8 + (1 + n) : Nat)))
      rw [show cellsW a { X with recs := X.recs ++ [l], size := X.size + (recR l).length } = ((cellsW a X).set 5 (.int .i64 ((X.recs.length : Int) + 1))).set 6 (.int .i64 ((X.size : Int) + (8 + (1 + n) : Nat))) by
        unfold cellsW
        rw [HL3.out]
        simp]
      exact this))
  clear HO2 hx
  go_wp2_with fail
  go_ret
  rw [HO3.out]
  exact HS.out.ret
set_option maxRecDepth 100000 in
set_option maxHeartbeats 1000000 in
theorem sync_in (p a : Nat) (X : WS) (D : DS) (fd : Nat → Prop) (w : World) (hb : Blk 60 w p (cellsW a X)) (hd : IsDisk w a D fd) (hap : ¬ fd p) (hD : D.Good) (hs : D.stepped ≤ 999000) (hp : D.powers ≤ 1000000) (hF : Fit X D) (hf : X.file ≠ -1) :
    Calls Try.prog 21 #[.pointer (some ⟨p, 0, none⟩)] w (RetW w p a (fun k => k = p) fd (syncO X D)) := by
  have hlife := hF.life
  have H1 := Lib.hid (St.start hb hd hap)
  have CK := Lib.hid (check_any p a X D fd _ H1.out.blk H1.out.disk hD (by omega) hp hlife none 0 0 [] (RdS.nil _ _ _) (by omega))
  have HO := Lib.hid (show syncO X D = if mayE X D [] ≠ 0 then ⟨mayE X D [], X, D⟩ else if D.syncE X.file ≠ 0 then halt X (D.syncS X.file) (D.syncE X.file) else ⟨0, X, D.syncS X.file⟩ from rfl)
  clear hb hd
  go_enter Try.func21, Try.ntmps21
  go_wp2_with fail
  refine CK.out.mono ?_
  clear CK
  rintro e w2 ⟨rfl, q, hw2⟩
  have H2 : Hid (St w p a fd w2 X D fd) := by rw [hw2]; exact H1.out.drewN q
  clear hw2 H1
  by_cases hm0 : mayE X D [] ≠ 0
  · have HO2 := Lib.hid (HO.out.trans (if_pos hm0))
    generalize mayE X D [] = x at *
    have hne : (x != 0) = true := by simpa using hm0
    clear HO hm0
    go_wp2_with fail
    go_ret
    rw [HO2.out]
    exact H2.out.ret
  have HO2 := Lib.hid (HO.out.trans (if_neg hm0))
  have hm1 : mayE X D [] = 0 := by simpa using hm0
  rw [hm1]
  have H3 := Lib.hid (show St w p a fd w2.drew X D fd from H2.out.drewN 1)
  have C := Lib.hid (disk.sync_any a D fd w2.drew H3.out.disk hD (by omega) hp X.file)
  have d0 : w2.cell? _ = _ := c0 H3.out.blk
  have d3 : w2.cell? _ = _ := c3_ H3.out.blk hf
  clear HO hm0 hm1 H2
  generalize D.syncE X.file = x at *
  generalize D.syncS X.file = D4 at *
  go_wp2_with fail
  go_still_tail 8, (by kernel_rfl)
  change wpList _ _ _ _ _ w2.drew
  go_wp2_with fail
  refine C.out.mono ?_
  clear C
  rintro e w4 ⟨fd4, rfl, hd4, hC4⟩
  have H4 := Lib.hid (H3.out.disk_ hd4 hC4)
  clear H3 hd4 hC4 d0 d3
  by_cases hx : x ≠ 0
  · have HO3 := Lib.hid (HO2.out.trans (if_pos hx))
    have hne : (x != 0) = true := by simpa using hx
    have C := Lib.hid (fail_any p a X x w4 H4.out.blk)
    clear HO2
    go_wp2_with fail
    refine C.out.mono ?_
    clear C
    rintro e w5 ⟨rfl, hb5, hG5⟩
    go_wp2_with fail
    go_ret
    rw [HO3.out]
    exact (H4.out.self hG5 hb5).ret
  have HO3 := Lib.hid (HO2.out.trans (if_neg hx))
  obtain rfl : x = 0 := by simpa using hx
  clear HO2 hx
  go_wp2_with fail
  go_ret
  rw [HO3.out]
  exact H4.out.ret
theorem count_in (p a : Nat) (X : WS) (D : DS) (fd : Nat → Prop) (w : World) (hb : Blk 60 w p (cellsW a X)) (hd : IsDisk w a D fd) (hD : D.Good) (hs : D.stepped ≤ 999000) (hp : D.powers ≤ 1000000) (hl : X.life ≤ 1000000000) :
    Calls Try.prog 27 #[.pointer (some ⟨p, 0, none⟩)] w fun e w' => e = .returned (.int .i64 (if X.over D = true then 0 else X.recs.length)) ∧ ∃ n, w' = w.drewN n := by
  have CK := Lib.hid (check_any p a X D fd w hb hd hD (by omega) hp hl none 0 0 [] (RdS.nil _ _ _) (by omega))
  have d5 := fun q => (show (w.drewN q).cell? _ = _ from c5 hb)
  have HM := Lib.hid (show mayE X D [] = if X.over D = true then 6 else if tooLong [] then 3 else 0 from rfl)
  clear hb hd
  go_enter Try.func27, Try.ntmps27
  go_wp2_with fail
  refine CK.out.mono ?_
  clear CK
  rintro e w2 ⟨rfl, q, rfl⟩
  have d5 := d5 q
  by_cases ho : X.over D = true
  · rw [HM.out, if_pos ho]
    clear HM
    go_wp2_with fail
    go_ret
    exact ⟨rfl, q, rfl⟩
  · rw [HM.out, if_neg ho, if_neg (by rintro ⟨r, hr, _⟩; cases hr)]
    clear HM
    go_wp2_with fail
    go_ret
    exact ⟨rfl, q, rfl⟩
theorem bytes_in (p a : Nat) (X : WS) (D : DS) (fd : Nat → Prop) (w : World) (hb : Blk 60 w p (cellsW a X)) (hd : IsDisk w a D fd) (hD : D.Good) (hs : D.stepped ≤ 999000) (hp : D.powers ≤ 1000000) (hl : X.life ≤ 1000000000) :
    Calls Try.prog 28 #[.pointer (some ⟨p, 0, none⟩)] w fun e w' => e = .returned (.int .i64 (if X.over D = true then 0 else X.size)) ∧ ∃ n, w' = w.drewN n := by
  have CK := Lib.hid (check_any p a X D fd w hb hd hD (by omega) hp hl none 0 0 [] (RdS.nil _ _ _) (by omega))
  have d5 := fun q => (show (w.drewN q).cell? _ = _ from c6 hb)
  have HM := Lib.hid (show mayE X D [] = if X.over D = true then 6 else if tooLong [] then 3 else 0 from rfl)
  clear hb hd
  go_enter Try.func28, Try.ntmps28
  go_wp2_with fail
  refine CK.out.mono ?_
  clear CK
  rintro e w2 ⟨rfl, q, rfl⟩
  have d5 := d5 q
  by_cases ho : X.over D = true
  · rw [HM.out, if_pos ho]
    clear HM
    go_wp2_with fail
    go_ret
    exact ⟨rfl, q, rfl⟩
  · rw [HM.out, if_neg ho, if_neg (by rintro ⟨r, hr, _⟩; cases hr)]
    clear HM
    go_wp2_with fail
    go_ret
    exact ⟨rfl, q, rfl⟩
end Go.Proofs.Ytafdgibkhefplaa.wal
