/- WalLasts's walk: it answers true of every input, and writes nothing that was there. No condition but those of the frame. -/
import Derived.Test.YtafdgibkhefplaaWalPicks
import Derived.Test.YtafdgibkhefplaaAlikeG
import Derived.Test.YtafdgibkhefplaaWsN
import Derived.Test.YtafdgibkhefplaaLightW
namespace Go.Proofs.Ytafdgibkhefplaa.law5
open Go.RowKit Go.Proofs.Ytafdgibkhefplaa.kit Go.Proofs.Ytafdgibkhefplaa.nums Go.Proofs.Ytafdgibkhefplaa.ds Go.Proofs.Ytafdgibkhefplaa.ws Go.Proofs.Ytafdgibkhefplaa.ref5 Go.Proofs.Ytafdgibkhefplaa.law0 Go.Proofs.Ytafdgibkhefplaa.bytes Go.Proofs.Ytafdgibkhefplaa.rec_
set_option linter.unusedVariables false

theorem safe_chg {w w' : World} {F F' : Nat → Prop} {R : World → Prop} (h : wal.Safe w F R) (hC : disk.Chg F F' w w') : wal.Safe w' F' R := fun W h1 h2 => h W (Nat.le_trans hC.size h1) (fun k hk hn => (h2 k (Nat.lt_of_lt_of_le hk hC.size) (fun h' => by
  rcases hC.new k h' with h3 | h3
  · exact hn h3
  · omega)).trans (hC.block k hk hn))
theorem safe_below {w w' : World} {F : Nat → Prop} {R : World → Prop} (h : wal.Safe w F R) (hB : Below w.heap.size w w') : wal.Safe w' F R := fun W h1 h2 => h W (Nat.le_trans hB.size h1) (fun k hk hn => (h2 k (Nat.lt_of_lt_of_le hk hB.size) hn).trans (hB.block k hk))
theorem safe_own {E : TypeId} {w : World} {base n c : Nat} {A : Option Addr} {xs : List Value} {F : Nat → Prop} (hO : OwnV E w base (.slice A n c) xs) (hn : xs.length = n) (hF : ∀ k, F k → k < base) : wal.Safe w F (fun W => RdV W W.heap.size A n xs) := fun W h1 h2 => by
  have hOW : OwnV E W base (.slice A n c) xs := by
    refine ⟨hO.1, ?_⟩
    rcases hO.2 with h | ⟨g, cap, cur, hv, hb, hg, r⟩
    · exact .inl h
    · exact .inr ⟨g, cap, cur, hv, hb, by rw [h2 g (Array.getElem?_eq_some_iff.1 hg).1 (fun h => by have := hF g h; omega)]; exact hg, r⟩
  obtain ⟨A', c', e, _, _, hV⟩ := hOW.slice
  rw [hn] at e hV
  simp only [Value.slice.injEq] at e
  obtain ⟨rfl, -, rfl⟩ := e
  exact hV
theorem rdv_pre {w : World} {B n : Nat} {A : Option Addr} {xs : List Value} {y : Value} (h : RdV w B A (n + 1) (xs ++ [y])) (hx : xs.length = n) : RdV w B A n xs :=
  ⟨hx, fun hn => by
    obtain ⟨b, o, e, hb, hc⟩ := h.2 (by omega)
    exact ⟨b, o, e, hb, fun j hj => by rw [hc j (by omega), List.getElem?_append_left (by omega)]⟩⟩
/-- What is held while it goes: the log, what is noted of it, and the statement's own two lists. -/
def Keeps (w wr : World) (p a j : Nat) (An : Option Addr) (nn : Nat) (Ax : Option Addr) (nx sf : Nat) (fl : Bool) : Prop :=
  ∃ X D fw fd R K, wal.Log wr p a X D fw fd ∧ Noted j X D R sf fl K ∧ (∀ k, fw k ∨ fd k → w.heap.size ≤ k) ∧ Below w.heap.size w wr ∧ R.length = nn ∧ (∀ r ∈ R, Byt r) ∧ wal.Safe wr (wal.Or2 fw fd) (fun W => RdV W W.heap.size An nn (R.map strV)) ∧
    (fl = true → K.length = nx ∧ (∀ r ∈ K, Byt r) ∧ wal.Safe wr (wal.Or2 fw fd) (fun W => RdV W W.heap.size Ax nx (K.map strV)))

theorem log_disk {w w' : World} {p a B : Nat} {X : WS} {D D' : DS} {fw fd fd' : Nat → Prop} (h : wal.Log w p a X D fw fd) (hd : disk.IsDisk w' a D' fd') (hC : disk.Chg fd fd' w w') (hf : ∀ k, fw k ∨ fd k → B ≤ k) (hB : B ≤ w.heap.size) : wal.Log w' p a X D' fw fd' ∧ (∀ k, fw k ∨ fd' k → B ≤ k) := by
  refine ⟨⟨h.wal.keep (fun k hk => hC.block k (h.wal.lt k hk) (h.apart k hk)), hd, fun k h1 h2 => ?_⟩, fun k hk => ?_⟩
  · rcases hC.new k h2 with h3 | h3
    · exact h.apart k h1 h3
    · have := h.wal.lt k h1; omega
  · rcases hk with h1 | h1
    · exact hf k (.inl h1)
    · rcases hC.new k h1 with h3 | h3
      · exact hf k (.inr h3)
      · omega
theorem log_lt {w : World} {p a : Nat} {X : WS} {D : DS} {fw fd : Nat → Prop} (h : wal.Log w p a X D fw fd) : ∀ k, wal.Or2 fw fd k → k < w.heap.size := fun k hk => by
  rcases hk with h1 | h1
  · exact h.wal.lt k h1
  · exact h.disk.lt k h1
theorem log_keep {w w' : World} {p a : Nat} {X : WS} {D : DS} {fw fd : Nat → Prop} (h : wal.Log w p a X D fw fd) (hB : Below w.heap.size w w') : wal.Log w' p a X D fw fd :=
  ⟨h.wal.keep (fun k hk => hB.block k (h.wal.lt k hk)), h.disk.keep (fun k hk => hB.block k (h.disk.lt k hk)), h.apart⟩
theorem chg_lift {w w' : World} {fw fd F : Nat → Prop} (h : disk.Chg fd F w w') : disk.Chg (wal.Or2 fw fd) F w w' :=
  ⟨h.os, h.tape, h.output, h.size, fun k hk hn => h.block k hk (fun h1 => hn (.inr h1)), fun k hk => by
    rcases h.new k hk with h1 | h1
    · exact .inl (.inr h1)
    · exact .inr h1⟩
theorem retop_disk {w w' : World} {a : Nat} {fd : Nat → Prop} {o : Out} {e : Ending} (h : wal.RetOp w a fd o e w') : ∃ fd' v, e = .returned v ∧ disk.IsDisk w' a o.D fd' ∧ disk.Chg fd fd' w w' := by
  rcases h with ⟨_, p, fw', fd', A, n, c, e1, hL, _, hC, _⟩ | ⟨_, fd', A, c, e1, hd, hC⟩
  · exact ⟨fd', _, e1, hL.disk, ⟨hC.os, hC.tape, hC.output, hC.size, hC.block, fun k hk => hC.new k (.inr hk)⟩⟩
  · exact ⟨fd', _, e1, hd, hC⟩
theorem rdv_take {w : World} {B n q : Nat} {A : Option Addr} {xs : List Value} (h : RdV w B A n xs) (hq : q ≤ n) : RdV w B A q (xs.take q) := by
  have hl := h.1
  refine ⟨by rw [List.length_take]; omega, fun hn => ?_⟩
  obtain ⟨b, o, e, hb, hc⟩ := h.2 (by omega)
  exact ⟨b, o, e, hb, fun j hj => by rw [hc j (by omega), List.getElem?_take, if_pos hj]⟩
theorem strV_one (L : List (List Int)) : ∀ u ∈ L.map strV, u.oneCell' = true := fun u hu => by
  obtain ⟨r, _, rfl⟩ := List.mem_map.1 hu
  rfl
theorem rdv_grown {w w' : World} {x n e : Nat} {B : Nat} {xs : List Value} (h : RdV w B (some ⟨x, 0, none⟩) n xs) (hG : w.grownBy w' (some e)) (hx : x ≠ e) (hB : B ≤ w.heap.size) : RdV w' B (some ⟨x, 0, none⟩) n xs :=
  ⟨h.1, fun hn => by
    obtain ⟨b, o, e1, hb, hc⟩ := h.2 hn
    cases e1
    exact ⟨x, 0, rfl, hb, fun j hj => (World.cell?_of_block (a := ⟨x, 0 + j, none⟩) (hG.block x (by omega) (by intro e2; cases e2; exact hx rfl))).trans (hc j hj)⟩⟩
theorem rdv_alloc {w : World} {A : Option Addr} {n : Nat} {xs : List Value} (h : RdV w w.heap.size A n xs) (o : Obj) : RdV (w.alloc o) w.heap.size A n xs := h.below ((Below.refl _ _).alloc (Nat.le_refl _) o)
theorem ownV_some {E : TypeId} {w : World} {base n c : Nat} {A : Option Addr} {xs : List Value} (h : OwnV E w base (.slice A n c) xs) (hn : xs.length = n) (h0 : 0 < n) : ∃ g, A = some ⟨g, 0, none⟩ := by
  rcases h.2 with ⟨h1, _⟩ | ⟨g, cap, cur, hv, _⟩
  · simp only [Value.slice.injEq] at h1
    omega
  · simp only [Value.slice.injEq] at hv
    exact ⟨g, hv.1⟩
theorem size_al (w : World) (o : Obj) : (w.alloc o).heap.size = w.heap.size + 1 := by simp
theorem size_dr (w : World) : w.drew.heap.size = w.heap.size := rfl
theorem keeps_of {w wd w' : World} {p a j nn nx sf : Nat} {An Ax : Option Addr} {X : WS} {D : DS} {fw fd fw' fd' : Nat → Prop} {R K : List (List Int)} {fl : Bool} (hL : wal.Log w' p a X D fw' fd') (hC : disk.Chg (wal.Or2 fw fd) (wal.Or2 fw' fd') wd w') (hf : ∀ k, fw k ∨ fd k → w.heap.size ≤ k) (hB : Below w.heap.size w wd) (hN : Noted j X D R sf fl K) (hRn : R.length = nn) (hRY : ∀ r ∈ R, Byt r) (hS : wal.Safe wd (wal.Or2 fw fd) (fun W => RdV W W.heap.size An nn (R.map strV)))
    (hx : fl = true → K.length = nx ∧ (∀ r ∈ K, Byt r) ∧ wal.Safe w' (wal.Or2 fw' fd') (fun W => RdV W W.heap.size Ax nx (K.map strV))) : Keeps w w' p a j An nn Ax nx sf fl :=
  ⟨X, D, fw', fd', R, K, hL, hN, from_ret (fun k hk => hC.new k hk) hf hB.size, hB.trans (below_chg hC hf hB.size), hRn, hRY, safe_chg hS hC, hx⟩
set_option maxRecDepth 100000 in
set_option maxHeartbeats 4000000 in
theorem lasts_walk (A : Option Addr) (n c : Nat) (os : List OpW) (at_ : Int) (Kp : Option Addr) (nk ck : Nat) (ks : List Int) (ag : Int) (Mp : Option Addr) (nm cm : Nat) (ms : List Int) (w : World)
    (hR : RdOpW w w.heap.size A n os) (hO : ∀ x ∈ os, OpWOk x) (hnc : n ≤ c) (hcm : c ≤ maxLen) (ha0 : (Lit.int .i64 at_).wf = true)
    (hK : RdV w w.heap.size Kp nk (ks.map (Value.int .i64))) (hKi : ∀ z ∈ ks, I64 z) (hnk : nk ≤ ck) (hck : ck ≤ maxLen) (hg0 : (Lit.int .i64 ag).wf = true)
    (hM : RdV w w.heap.size Mp nm (ms.map (Value.int .i64))) (hMi : ∀ z ∈ ms, I64 z) (hnm : nm ≤ cm) (hcm2 : cm ≤ maxLen) :
    Calls Try.prog 4 #[.slice A n c, .int .i64 at_, .slice Kp nk ck, .int .i64 ag, .slice Mp nm cm] w fun e w' => e = .returned (.bool true) ∧ Below w.heap.size w w' := by
  have ha : -9223372036854775808 ≤ at_ ∧ at_ ≤ 9223372036854775807 := by simpa [Lit.wf, IntKind.min, IntKind.max, IntKind.signed, IntKind.bits] using ha0
  have hg : -9223372036854775808 ≤ ag ∧ ag ≤ 9223372036854775807 := by simpa [Lit.wf, IntKind.min, IntKind.max, IntKind.signed, IntKind.bits] using hg0
  clear ha0 hg0
  have hx1 := hcm
  have hx2 := hck
  have hx3 := hcm2
  unfold maxLen at hx1 hx2 hx3
  have HO := Lib.hid hO
  have HR := Lib.hid hR
  have HK := Lib.hid (And.intro hK hKi)
  have HM := Lib.hid (And.intro hM hMi)
  clear hO hR hK hM hKi hMi
  go_enter Try.func4, Try.ntmps4
  go_wp2_with fail
  refine (begun_any w).mono ?_
  rintro e w1 ⟨rfl, hB1⟩
  have C1 := Lib.hid (light_any A n c 20 os w1 _ (HR.out.below hB1) (by omega) (by omega))
  go_wp2_with fail
  refine C1.out.mono ?_
  clear C1
  rintro e w2 ⟨r, rfl, hr, rfl⟩
  rcases r with _ | _
  · go_wp2_with fail
    go_ret
    exact ⟨rfl, hB1⟩
  obtain ⟨hn, hl⟩ := hr rfl
  have HL := Lib.hid hl
  clear hr hl
  by_cases hk10 : nk ≤ 10
  case neg =>
    go_wp2_with fail
    go_ret
    exact ⟨rfl, hB1⟩
  by_cases hm10 : nm ≤ 10
  case neg =>
    go_wp2_with fail
    go_ret
    exact ⟨rfl, hB1⟩
  go_wp2_with fail
  refine (disk.new_any w1).mono ?_
  rintro e w2 ⟨a, fd2, rfl, hd2, hf2, hB2⟩
  have hs1 := hB1.size
  have hB02 := hB1.trans (hB2.mono hs1)
  have hf2' : ∀ k, fd2 k → w.heap.size ≤ k := fun k hk => Nat.le_trans hs1 (hf2 k hk)
  have C1 := Lib.hid (wal.open_any a DS.fresh fd2 w2 hd2 DS.Good.fresh (show (0 : Nat) ≤ 999000 by omega) (show (0 : Nat) ≤ 1000000 by omega))
  obtain ⟨e0, hRun⟩ := Run.begun
  clear hB1 hB2 hs1 hf2 hd2
  go_wp2_with fail
  refine C1.out.mono ?_
  clear C1
  rintro e w3 (⟨_, p, fw3, fd3, A3, n3, c3, rfl, hL3, hfw3, hC3, _⟩ | ⟨he, _⟩)
  case inr => exact absurd e0 he
  have hf3 : ∀ k, fw3 k ∨ fd3 k → w.heap.size ≤ k := from_ret (fun k hk => hC3.new k hk) hf2' hB02.size
  have HB3 := Lib.hid (hB02.trans (below_chg hC3 hf2' hB02.size))
  have h3s := HB3.out.size
  have C1 := Lib.hid (place_any at_ 40 w3 ha.1 ha.2 (by omega))
  have hpl := place_in at_ 40 (by omega)
  clear hC3 hB02 hf2' hfw3
  generalize (openO DS.fresh).X = X3 at *
  generalize (openO DS.fresh).D = D3 at *
  go_wp2_with fail
  refine C1.out.mono ?_
  clear C1
  rintro e w3' ⟨rfl, rfl⟩
  have hst3 := hRun.steps
  have hpw3 := hRun.powers
  have C1 := Lib.hid (disk.arm_any a D3 fd3 w3 hL3.disk hRun.good (by omega) (by omega) (placeF at_ 40) (by omega))
  go_wp2_with fail
  refine C1.out.mono ?_
  clear C1
  rintro e w4 ⟨fd4, rfl, hd4, hC4⟩
  obtain ⟨hL4, hf4⟩ := log_disk hL3 hd4 hC4 hf3 h3s
  have hB4 := HB3.out.trans (below_chg hC4 (fun k hk => hf3 k (.inr hk)) h3s)
  have hR4 := hRun.arm (k := placeF at_ 40) (by omega)
  have HI0 : Hid (Keeps w w4 p a 0 none 0 none 0 0 false) := ⟨X3, D3.armS (placeF at_ 40), fw3, fd4, [], [], hL4, hR4.noted, hf4, hB4, rfl, (fun r hr => by cases hr), (fun W _ _ => RdV.nil _ _ _), fun h => by cases h⟩
  clear hL3 hd4 hC4 hf3 hL4 hf4 hB4 hR4 hRun HB3 hst3 hpw3 h3s hpl e0
  go_wp2_with fail
  go_loopw [15, 16, 17, 18, 19] (fun now next safe failed i wr => ∃ (j : Nat) (An : Option Addr) (nn cn : Nat) (Ax : Option Addr) (nx cx sf : Nat) (fl : Bool), j ≤ n ∧ i = .int .i64 j ∧ now = .slice An nn cn ∧ next = .slice Ax nx cx ∧ safe = .int .i64 sf ∧ failed = .bool fl ∧ nn ≤ cn ∧ Hid (Keeps w wr p a j An nn Ax nx sf fl)) (fun _ _ _ _ i _ => n - (intOf i).toNat)
  case atStart => exact ⟨0, none, 0, 0, none, 0, 0, 0, false, by omega, rfl, rfl, rfl, rfl, rfl, by omega, HI0⟩
  case round =>
    clear HI0
    obtain ⟨j, An, nn, cn, Ax, nx, cx, sf, fl, hj, rfl, rfl, rfl, rfl, rfl, hncn, HI⟩ := hrel
    obtain ⟨X, D, fw, fd, R, K, hLg, hNo, hfr, hBw, hRn, hRY, hSn, hSx⟩ := HI.out
    have hDG : D.Good := by obtain ⟨f, g, L, M, s, hC, _⟩ := hNo.crash; exact hC.good
    have hst := hNo.steps
    have hpw := hNo.powers
    have hfew := hNo.few
    have hlen := HR.out.1
    have CD := Lib.hid (disk.dead_any a D fd wr hLg.disk hDG (by omega) (by omega))
    by_cases hlt : j < n
    case neg =>
      obtain rfl : j = n := by omega
      have HZ := Lib.hid (And.intro hLg (And.intro hBw (And.intro hfr (And.intro hSn hSx))))
      clear hLg hBw hfr hSn hSx HI CD
      generalize wr = wz at *
      have hz1 := HZ.out.1
      have hCr : D.Good := hDG
      have C := Lib.hid (disk.power_any a D fd wz hz1.disk hDG (by omega) (by omega) Kp nk ck ks ((HK.out.1.below HZ.out.2.1).more HZ.out.2.1.size) HK.out.2 (fun h0 b o e hk => by
        obtain ⟨b', o', e', hb', _⟩ := HK.out.1.2 h0
        cases e'.symm.trans e
        have := HZ.out.2.2.1 b (.inr hk)
        omega) (by omega))
      have HNo := Lib.hid hNo
      have hpl := place_in ag 6 (by omega)
      have hfdz : ∀ k, fd k → w.heap.size ≤ k := fun k hk => HZ.out.2.2.1 k (.inr hk)
      have hzs := HZ.out.2.1.size
      clear hNo hz1
      go_wp2_with fail
      refine C.out.mono ?_
      clear C
      rintro e y1 ⟨fd1, rfl, hd1, hC1⟩
      have hf1 : ∀ k, fd1 k → w.heap.size ≤ k := from_ret hC1.new hfdz hzs
      have HB1 := Lib.hid (HZ.out.2.1.trans (below_chg hC1 hfdz hzs))
      have HS1 := Lib.hid (safe_chg HZ.out.2.2.2.1 (chg_lift hC1))
      have HX1 := Lib.hid (fun h => (HZ.out.2.2.2.2 h).imp id (And.imp id (fun s => safe_chg s (chg_lift hC1))))
      have hg1 := hDG.pow (by omega) ks
      have hp1 : (D.powS ks).powers = 1 := by show D.powers + 1 = 1; omega
      have hst1 : (D.powS ks).stepped ≤ 63 := by show D.stepped ≤ 63; omega
      have h1s := HB1.out.size
      have CPl := Lib.hid (place_any ag 6 y1 hg.1 hg.2 (by omega))
      have C := Lib.hid (disk.arm_any a (D.powS ks) fd1 y1 hd1 hg1 (by omega) (by omega) (placeF ag 6) (by omega))
      obtain ⟨r0, rr⟩ := HNo.out.reads (by omega) ks (placeF ag 6) (by omega) ms
      have hg2 : ((D.powS ks).armS (placeF ag 6)).Good := hg1.arm (by omega)
      have hp2 : ((D.powS ks).armS (placeF ag 6)).powers = 1 := hp1
      have hst2 : ((D.powS ks).armS (placeF ag 6)).stepped ≤ 63 := hst1
      clear hC1 hfdz hd1 HZ hg1 hp1 hst1
      generalize (D.powS ks).armS (placeF ag 6) = D2 at *
      go_wp2_with fail
      refine CPl.out.mono ?_
      clear CPl
      rintro e y1' ⟨rfl, rfl⟩
      go_wp2_with fail
      refine C.out.mono ?_
      clear C
      rintro e y2 ⟨fd2, rfl, hd2, hC2⟩
      have hf2 : ∀ k, fd2 k → w.heap.size ≤ k := from_ret hC2.new hf1 h1s
      have HB2 := Lib.hid (HB1.out.trans (below_chg hC2 hf1 h1s))
      have HS2 := Lib.hid (safe_chg HS1.out hC2)
      have HX2 := Lib.hid (fun h => (HX1.out h).imp id (And.imp id (fun s => safe_chg s hC2)))
      have h2s := HB2.out.size
      have C := Lib.hid (wal.open_any a D2 fd2 y2 hd2 hg2 (by omega) (by omega))
      obtain ⟨hg3, hs3, hp3'⟩ := open_near D2 hg2 (by omega)
      clear hC2 hf1 hd2 HB1 HS1 HX1
      go_wp2_with fail
      refine C.out.mono ?_
      clear C
      intro e y3 hret
      obtain ⟨fd3, v3, rfl, hd3, hC3⟩ := retop_disk hret
      have hf3 : ∀ k, fd3 k → w.heap.size ≤ k := from_ret hC3.new hf2 h2s
      have HB3 := Lib.hid (HB2.out.trans (below_chg hC3 hf2 h2s))
      have HS3 := Lib.hid (safe_chg HS2.out hC3)
      have HX3 := Lib.hid (fun h => (HX2.out h).imp id (And.imp id (fun s => safe_chg s hC3)))
      have h3s := HB3.out.size
      have C := Lib.hid (disk.power_any a (openO D2).D fd3 y3 hd3 hg3 (by omega) (by omega) Mp nm cm ms ((HM.out.1.below HB3.out).more HB3.out.size) HM.out.2 (fun h0 b o e hk => by
        obtain ⟨b', o', e', hb', _⟩ := HM.out.1.2 h0
        cases e'.symm.trans e
        have := hf3 b hk
        omega) (by omega))
      have hg4 := hg3.pow (by omega) ms
      have hp4 : ((openO D2).D.powS ms).powers ≤ 2 := by show (openO D2).D.powers + 1 ≤ 2; omega
      have hst4 : ((openO D2).D.powS ms).stepped ≤ 66 := by show (openO D2).D.stepped ≤ 66; omega
      clear hC3 hf2 hd3 HB2 HS2 HX2 hret hg3 hs3 hp3'
      generalize (openO D2).D.powS ms = D4 at *
      go_wp2_with fail
      refine C.out.mono ?_
      clear C
      rintro e y4 ⟨fd4, rfl, hd4, hC4⟩
      have hf4 : ∀ k, fd4 k → w.heap.size ≤ k := from_ret hC4.new hf3 h3s
      have HB4 := Lib.hid (HB3.out.trans (below_chg hC4 hf3 h3s))
      have HS4 := Lib.hid (safe_chg HS3.out hC4)
      have HX4 := Lib.hid (fun h => (HX3.out h).imp id (And.imp id (fun s => safe_chg s hC4)))
      have h4s := HB4.out.size
      have C := Lib.hid (wal.open_any a D4 fd4 y4 hd4 hg4 (by omega) (by omega))
      have hFo := Fit.open_ hg4
      clear hC4 hf3 hd4 HB3 HS3 HX3
      go_wp2_with fail
      refine C.out.mono ?_
      clear C
      rintro e y5 (⟨_, p5, fw5, fd5, A5, n5, c5, rfl, hL5, hfw5, hC5, hSafe⟩ | ⟨he, _⟩)
      case inr => exact absurd r0 he
      have hR5 := hSafe y5 (Nat.le_refl _) (fun _ _ _ => rfl)
      have hZY : ∀ r ∈ (openO D4).X.recs, Byt r := fun r hr => (hFo.recs r hr).1
      have hZn := hR5.len
      have HB5 := Lib.hid (HB4.out.trans (below_chg hC5 hf4 h4s))
      have hSn5 := safe_chg HS4.out hC5 y5 (Nat.le_refl _) (fun _ _ _ => rfl)
      have hXn5 := fun h => (HX4.out h).imp id (And.imp id (fun s => safe_chg s hC5 y5 (Nat.le_refl _) (fun _ _ _ => rfl)))
      have h5s := HB5.out.size
      clear hC5 hL5 hfw5 hSafe hf4 HB4 HS4 HX4 hFo r0
      generalize (openO D4).X.recs = Z at *
      rw [hZn] at rr
      have hn5 : n5 ≤ 30 := by
        rcases rr with ⟨_, h, _⟩ | ⟨_, h⟩
        · omega
        · have := HNo.out.fewK; rw [← h, hZn] at this; omega
      have HNN := Lib.hid HNo.out.fewK
      clear HNo
      by_cases hin : sf ≤ n5 ∧ n5 ≤ nn
      · obtain ⟨hi1, hi2⟩ := hin
        have hpre := rdv_take hSn5 hi2
        rw [← List.map_take] at hpre
        have CA := Lib.hid (fun (cc : Nat) => alike_gen A5 n5 c5 Z An cc (R.take n5) y5 _ _ hR5 hpre (by omega) hZY (fun r hr => hRY r (List.mem_of_mem_take hr)))
        have j1 : (sf : Int) ≤ n5 := by omega
        have j2 : (n5 : Int) ≤ nn := by omega
        have j3 : (n5 : Int) ≤ cn := by omega
        clear hSn5 hpre
        by_cases hZ : Z = R.take n5
        · have hdd : decide (Z = R.take n5) = true := decide_eq_true hZ
          rw [hdd] at CA
          clear rr
          rcases An with _ | an
          · go_wp2_with fail
            refine (CA.out _).mono ?_
            rintro e y6 ⟨rfl, q6, rfl⟩
            go_wp2_with fail
            go_ret
            exact ⟨rfl, below_drewN HB5.out q6⟩
          · go_wp2_with fail
            refine (CA.out _).mono ?_
            rintro e y6 ⟨rfl, q6, rfl⟩
            go_wp2_with fail
            go_ret
            exact ⟨rfl, below_drewN HB5.out q6⟩
        · have hdd : decide (Z = R.take n5) = false := decide_eq_false hZ
          rw [hdd] at CA
          obtain ⟨rfl, hZK⟩ : fl = true ∧ Z = K := by
            rcases rr with ⟨_, _, h⟩ | h
            · exact absurd h hZ
            · exact h
          obtain ⟨k1, k2, k3⟩ := hXn5 rfl
          obtain rfl : n5 = nx := by rw [← k1, ← hZK, hZn]
          rw [← hZK] at k3
          have CN := Lib.hid (fun q => alike_any A5 n5 c5 Z Ax cx (y5.drewN q) _ _ (show RdS (y5.drewN q) _ A5 n5 Z from hR5) (show RdV (y5.drewN q) _ Ax n5 (Z.map strV) from k3) (by omega))
          clear rr hR5 k3 hXn5
          rcases An with _ | an
          · go_wp2_with fail
            refine (CA.out _).mono ?_
            rintro e y6 ⟨rfl, q6, rfl⟩
            go_wp2_with fail
            refine (CN.out _).mono ?_
            rintro e y7 ⟨rfl, q7, rfl⟩
            go_wp2_with fail
            go_ret
            exact ⟨rfl, below_drewN HB5.out _⟩
          · go_wp2_with fail
            refine (CA.out _).mono ?_
            rintro e y6 ⟨rfl, q6, rfl⟩
            go_wp2_with fail
            refine (CN.out _).mono ?_
            rintro e y7 ⟨rfl, q7, rfl⟩
            go_wp2_with fail
            go_ret
            exact ⟨rfl, below_drewN HB5.out _⟩
      · obtain ⟨rfl, hZK⟩ : fl = true ∧ Z = K := by
          rcases rr with ⟨h1, h2, _⟩ | h
          · exact absurd ⟨h1, by rw [← hRn]; exact h2⟩ hin
          · exact h
        obtain ⟨k1, k2, k3⟩ := hXn5 rfl
        obtain rfl : n5 = nx := by rw [← k1, ← hZK, hZn]
        rw [← hZK] at k3
        have CN := Lib.hid (alike_any A5 n5 c5 Z Ax cx y5 _ _ hR5 k3 (by omega))
        clear rr hR5 k3 hXn5 hSn5
        by_cases hlo : sf ≤ n5
        · have j1 : (sf : Int) ≤ n5 := by omega
          have j2 : ¬ (n5 : Int) ≤ nn := by omega
          go_wp2_with fail
          refine CN.out.mono ?_
          rintro e y7 ⟨rfl, q7, rfl⟩
          go_wp2_with fail
          go_ret
          exact ⟨rfl, below_drewN HB5.out q7⟩
        · have j1 : ¬ (sf : Int) ≤ n5 := by omega
          go_wp2_with fail
          refine CN.out.mono ?_
          rintro e y7 ⟨rfl, q7, rfl⟩
          go_wp2_with fail
          go_ret
          exact ⟨rfl, below_drewN HB5.out q7⟩
    by_cases hoff : D.off = true
    case pos =>
      rw [hoff] at CD
      have i0 : (0 : Int) ≤ j ∧ (j : Int) < n := by omega
      have HZ0 := Lib.hid (And.intro hLg (And.intro hBw (And.intro hfr (And.intro hSn hSx))))
      clear hLg hBw hfr hSn hSx HI
      go_wp2_with fail
      refine CD.out.mono ?_
      clear CD
      rintro e wz ⟨rfl, qz, hqz⟩
      have hbz : Below wr.heap.size wr wz := by rw [hqz]; exact below_drewN (Below.refl _ _) qz
      have HZ := Lib.hid (And.intro (log_keep HZ0.out.1 hbz) (And.intro (HZ0.out.2.1.trans (hbz.mono HZ0.out.2.1.size)) (And.intro HZ0.out.2.2.1 (And.intro (safe_below HZ0.out.2.2.2.1 hbz) (fun h => (HZ0.out.2.2.2.2 h).imp id (And.imp id (fun s => safe_below s hbz)))))))
      clear HZ0 hbz hqz
      have hz1 := HZ.out.1
      have hCr : D.Good := hDG
      have C := Lib.hid (disk.power_any a D fd wz hz1.disk hDG (by omega) (by omega) Kp nk ck ks ((HK.out.1.below HZ.out.2.1).more HZ.out.2.1.size) HK.out.2 (fun h0 b o e hk => by
        obtain ⟨b', o', e', hb', _⟩ := HK.out.1.2 h0
        cases e'.symm.trans e
        have := HZ.out.2.2.1 b (.inr hk)
        omega) (by omega))
      have HNo := Lib.hid hNo
      have hpl := place_in ag 6 (by omega)
      have hfdz : ∀ k, fd k → w.heap.size ≤ k := fun k hk => HZ.out.2.2.1 k (.inr hk)
      have hzs := HZ.out.2.1.size
      clear hNo hz1
      go_wp2_with fail
      refine C.out.mono ?_
      clear C
      rintro e y1 ⟨fd1, rfl, hd1, hC1⟩
      have hf1 : ∀ k, fd1 k → w.heap.size ≤ k := from_ret hC1.new hfdz hzs
      have HB1 := Lib.hid (HZ.out.2.1.trans (below_chg hC1 hfdz hzs))
      have HS1 := Lib.hid (safe_chg HZ.out.2.2.2.1 (chg_lift hC1))
      have HX1 := Lib.hid (fun h => (HZ.out.2.2.2.2 h).imp id (And.imp id (fun s => safe_chg s (chg_lift hC1))))
      have hg1 := hDG.pow (by omega) ks
      have hp1 : (D.powS ks).powers = 1 := by show D.powers + 1 = 1; omega
      have hst1 : (D.powS ks).stepped ≤ 63 := by show D.stepped ≤ 63; omega
      have h1s := HB1.out.size
      have CPl := Lib.hid (place_any ag 6 y1 hg.1 hg.2 (by omega))
      have C := Lib.hid (disk.arm_any a (D.powS ks) fd1 y1 hd1 hg1 (by omega) (by omega) (placeF ag 6) (by omega))
      obtain ⟨r0, rr⟩ := HNo.out.reads (by omega) ks (placeF ag 6) (by omega) ms
      have hg2 : ((D.powS ks).armS (placeF ag 6)).Good := hg1.arm (by omega)
      have hp2 : ((D.powS ks).armS (placeF ag 6)).powers = 1 := hp1
      have hst2 : ((D.powS ks).armS (placeF ag 6)).stepped ≤ 63 := hst1
      clear hC1 hfdz hd1 HZ hg1 hp1 hst1
      generalize (D.powS ks).armS (placeF ag 6) = D2 at *
      go_wp2_with fail
      refine CPl.out.mono ?_
      clear CPl
      rintro e y1' ⟨rfl, rfl⟩
      go_wp2_with fail
      refine C.out.mono ?_
      clear C
      rintro e y2 ⟨fd2, rfl, hd2, hC2⟩
      have hf2 : ∀ k, fd2 k → w.heap.size ≤ k := from_ret hC2.new hf1 h1s
      have HB2 := Lib.hid (HB1.out.trans (below_chg hC2 hf1 h1s))
      have HS2 := Lib.hid (safe_chg HS1.out hC2)
      have HX2 := Lib.hid (fun h => (HX1.out h).imp id (And.imp id (fun s => safe_chg s hC2)))
      have h2s := HB2.out.size
      have C := Lib.hid (wal.open_any a D2 fd2 y2 hd2 hg2 (by omega) (by omega))
      obtain ⟨hg3, hs3, hp3'⟩ := open_near D2 hg2 (by omega)
      clear hC2 hf1 hd2 HB1 HS1 HX1
      go_wp2_with fail
      refine C.out.mono ?_
      clear C
      intro e y3 hret
      obtain ⟨fd3, v3, rfl, hd3, hC3⟩ := retop_disk hret
      have hf3 : ∀ k, fd3 k → w.heap.size ≤ k := from_ret hC3.new hf2 h2s
      have HB3 := Lib.hid (HB2.out.trans (below_chg hC3 hf2 h2s))
      have HS3 := Lib.hid (safe_chg HS2.out hC3)
      have HX3 := Lib.hid (fun h => (HX2.out h).imp id (And.imp id (fun s => safe_chg s hC3)))
      have h3s := HB3.out.size
      have C := Lib.hid (disk.power_any a (openO D2).D fd3 y3 hd3 hg3 (by omega) (by omega) Mp nm cm ms ((HM.out.1.below HB3.out).more HB3.out.size) HM.out.2 (fun h0 b o e hk => by
        obtain ⟨b', o', e', hb', _⟩ := HM.out.1.2 h0
        cases e'.symm.trans e
        have := hf3 b hk
        omega) (by omega))
      have hg4 := hg3.pow (by omega) ms
      have hp4 : ((openO D2).D.powS ms).powers ≤ 2 := by show (openO D2).D.powers + 1 ≤ 2; omega
      have hst4 : ((openO D2).D.powS ms).stepped ≤ 66 := by show (openO D2).D.stepped ≤ 66; omega
      clear hC3 hf2 hd3 HB2 HS2 HX2 hret hg3 hs3 hp3'
      generalize (openO D2).D.powS ms = D4 at *
      go_wp2_with fail
      refine C.out.mono ?_
      clear C
      rintro e y4 ⟨fd4, rfl, hd4, hC4⟩
      have hf4 : ∀ k, fd4 k → w.heap.size ≤ k := from_ret hC4.new hf3 h3s
      have HB4 := Lib.hid (HB3.out.trans (below_chg hC4 hf3 h3s))
      have HS4 := Lib.hid (safe_chg HS3.out hC4)
      have HX4 := Lib.hid (fun h => (HX3.out h).imp id (And.imp id (fun s => safe_chg s hC4)))
      have h4s := HB4.out.size
      have C := Lib.hid (wal.open_any a D4 fd4 y4 hd4 hg4 (by omega) (by omega))
      have hFo := Fit.open_ hg4
      clear hC4 hf3 hd4 HB3 HS3 HX3
      go_wp2_with fail
      refine C.out.mono ?_
      clear C
      rintro e y5 (⟨_, p5, fw5, fd5, A5, n5, c5, rfl, hL5, hfw5, hC5, hSafe⟩ | ⟨he, _⟩)
      case inr => exact absurd r0 he
      have hR5 := hSafe y5 (Nat.le_refl _) (fun _ _ _ => rfl)
      have hZY : ∀ r ∈ (openO D4).X.recs, Byt r := fun r hr => (hFo.recs r hr).1
      have hZn := hR5.len
      have HB5 := Lib.hid (HB4.out.trans (below_chg hC5 hf4 h4s))
      have hSn5 := safe_chg HS4.out hC5 y5 (Nat.le_refl _) (fun _ _ _ => rfl)
      have hXn5 := fun h => (HX4.out h).imp id (And.imp id (fun s => safe_chg s hC5 y5 (Nat.le_refl _) (fun _ _ _ => rfl)))
      have h5s := HB5.out.size
      clear hC5 hL5 hfw5 hSafe hf4 HB4 HS4 HX4 hFo r0
      generalize (openO D4).X.recs = Z at *
      rw [hZn] at rr
      have hn5 : n5 ≤ 30 := by
        rcases rr with ⟨_, h, _⟩ | ⟨_, h⟩
        · omega
        · have := HNo.out.fewK; rw [← h, hZn] at this; omega
      have HNN := Lib.hid HNo.out.fewK
      clear HNo
      by_cases hin : sf ≤ n5 ∧ n5 ≤ nn
      · obtain ⟨hi1, hi2⟩ := hin
        have hpre := rdv_take hSn5 hi2
        rw [← List.map_take] at hpre
        have CA := Lib.hid (fun (cc : Nat) => alike_gen A5 n5 c5 Z An cc (R.take n5) y5 _ _ hR5 hpre (by omega) hZY (fun r hr => hRY r (List.mem_of_mem_take hr)))
        have j1 : (sf : Int) ≤ n5 := by omega
        have j2 : (n5 : Int) ≤ nn := by omega
        have j3 : (n5 : Int) ≤ cn := by omega
        clear hSn5 hpre
        by_cases hZ : Z = R.take n5
        · have hdd : decide (Z = R.take n5) = true := decide_eq_true hZ
          rw [hdd] at CA
          clear rr
          rcases An with _ | an
          · go_wp2_with fail
            refine (CA.out _).mono ?_
            rintro e y6 ⟨rfl, q6, rfl⟩
            go_wp2_with fail
            go_ret
            exact ⟨rfl, below_drewN HB5.out q6⟩
          · go_wp2_with fail
            refine (CA.out _).mono ?_
            rintro e y6 ⟨rfl, q6, rfl⟩
            go_wp2_with fail
            go_ret
            exact ⟨rfl, below_drewN HB5.out q6⟩
        · have hdd : decide (Z = R.take n5) = false := decide_eq_false hZ
          rw [hdd] at CA
          obtain ⟨rfl, hZK⟩ : fl = true ∧ Z = K := by
            rcases rr with ⟨_, _, h⟩ | h
            · exact absurd h hZ
            · exact h
          obtain ⟨k1, k2, k3⟩ := hXn5 rfl
          obtain rfl : n5 = nx := by rw [← k1, ← hZK, hZn]
          rw [← hZK] at k3
          have CN := Lib.hid (fun q => alike_any A5 n5 c5 Z Ax cx (y5.drewN q) _ _ (show RdS (y5.drewN q) _ A5 n5 Z from hR5) (show RdV (y5.drewN q) _ Ax n5 (Z.map strV) from k3) (by omega))
          clear rr hR5 k3 hXn5
          rcases An with _ | an
          · go_wp2_with fail
            refine (CA.out _).mono ?_
            rintro e y6 ⟨rfl, q6, rfl⟩
            go_wp2_with fail
            refine (CN.out _).mono ?_
            rintro e y7 ⟨rfl, q7, rfl⟩
            go_wp2_with fail
            go_ret
            exact ⟨rfl, below_drewN HB5.out _⟩
          · go_wp2_with fail
            refine (CA.out _).mono ?_
            rintro e y6 ⟨rfl, q6, rfl⟩
            go_wp2_with fail
            refine (CN.out _).mono ?_
            rintro e y7 ⟨rfl, q7, rfl⟩
            go_wp2_with fail
            go_ret
            exact ⟨rfl, below_drewN HB5.out _⟩
      · obtain ⟨rfl, hZK⟩ : fl = true ∧ Z = K := by
          rcases rr with ⟨h1, h2, _⟩ | h
          · exact absurd ⟨h1, by rw [← hRn]; exact h2⟩ hin
          · exact h
        obtain ⟨k1, k2, k3⟩ := hXn5 rfl
        obtain rfl : n5 = nx := by rw [← k1, ← hZK, hZn]
        rw [← hZK] at k3
        have CN := Lib.hid (alike_any A5 n5 c5 Z Ax cx y5 _ _ hR5 k3 (by omega))
        clear rr hR5 k3 hXn5 hSn5
        by_cases hlo : sf ≤ n5
        · have j1 : (sf : Int) ≤ n5 := by omega
          have j2 : ¬ (n5 : Int) ≤ nn := by omega
          go_wp2_with fail
          refine CN.out.mono ?_
          rintro e y7 ⟨rfl, q7, rfl⟩
          go_wp2_with fail
          go_ret
          exact ⟨rfl, below_drewN HB5.out q7⟩
        · have j1 : ¬ (sf : Int) ≤ n5 := by omega
          go_wp2_with fail
          refine CN.out.mono ?_
          rintro e y7 ⟨rfl, q7, rfl⟩
          go_wp2_with fail
          go_ret
          exact ⟨rfl, below_drewN HB5.out q7⟩
    have hoff' : D.off = false := by simpa using hoff
    rw [hoff'] at CD
    obtain ⟨rfl, L0, M0, s0, hRun, rfl, rfl⟩ := hNo.run hoff'
    have hsz := hBw.size
    obtain ⟨b, o, x, rfl, hbl, hx, hx0, hx1', hx2', v3, v4, v5, hx3', hx4', hx5', hv⟩ := HR.out.at_ hlt
    have hcc := fun i => hBw.cell (p := ⟨b, i, none⟩) hbl
    rw [← hcc] at hx0 hx3' hx4'
    have hxO := HO.out x (List.mem_of_getElem? hx)
    have hxl := HL.out x (List.mem_of_getElem? hx)
    have hj20 : j < 20 := by omega
    have i0 : (0 : Int) ≤ j ∧ (j : Int) < n := by omega
    have hFit := hRun.fit
    have hXf : X.file ≠ -1 := by rcases hRun.file with e | e <;> rw [e] <;> decide
    have CP := Lib.hid (fun q => place_any x.kind 3 (wr.drewN q) hxO.kind.1 hxO.kind.2 (by omega))
    have hp3 := place_in x.kind 3 (by omega)
    clear HI hNo hx1' hx2' hx5' hcc
    go_wp2_with fail
    refine CD.out.mono ?_
    clear CD
    rintro e wd ⟨rfl, qd, hqd⟩
    have HLd := Lib.hid (show wal.Log wd p a X D fw fd by rw [hqd]; exact log_keep hLg (below_drewN (Below.refl _ _) qd))
    have HBd := Lib.hid (show Below w.heap.size w wd by rw [hqd]; exact below_drewN hBw qd)
    have HSd := Lib.hid (show wal.Safe wd (wal.Or2 fw fd) (fun W => RdV W W.heap.size An nn ((L0 ++ M0).map strV)) by rw [hqd]; exact safe_below hSn (below_drewN (Below.refl _ _) qd))
    have hx0 : wd.cell? ⟨b, o + j * 6, none⟩ = some (.int .i64 x.kind) := by rw [hqd]; exact hx0
    have hx3 : wd.cell? ⟨b, o + j * 6 + 3, none⟩ = some v3 := by rw [hqd]; exact hx3'
    have hx4 : wd.cell? ⟨b, o + j * 6 + 4, none⟩ = some v4 := by rw [hqd]; exact hx4'
    have CP := Lib.hid (show Calls Try.prog 18 #[.int .i64 x.kind, .int .i64 3] wd (fun e w' => e = .returned (.int .i64 (placeF x.kind 3)) ∧ wd = w') by rw [hqd]; exact CP.out qd)
    have HRun := Lib.hid hRun
    have HV := Lib.hid hv
    have hwds := HBd.out.size
    clear hqd hLg hBw hSn hSx hx3' hx4' hv
    go_wp2_with fail
    refine CP.out.mono ?_
    clear CP
    rintro e wd' ⟨rfl, rfl⟩
    rcases (show placeF x.kind 3 = 0 ∨ placeF x.kind 3 = 1 ∨ placeF x.kind 3 = 2 by omega) with hk | hk | hk
    · rw [hk]
      obtain ⟨Ab, cb, rfl, hb1, hb2, hbR⟩ := HV.out.b
      obtain ⟨nb, hnb⟩ : ∃ nb, x.b.length = nb := ⟨_, rfl⟩
      rw [hnb] at hb1 hbR hx3
      have hb300 : nb ≤ 300 := by rw [← hnb]; exact hxl.1
      have hRl : (L0 ++ M0).length = nn := hRn
      have HX3 := Lib.hid hx3
      go_upto_region 21 with (fail)
      have HSB := Lib.hid (show ∀ wq wz : World, (Below wd.heap.size wd wq ∧ wq.cell? ⟨b, o + j * 6 + 3, none⟩ = some (.slice Ab nb cb) ∧ (convert 35 9 (.slice Ab nb cb)).run Try.prog wq = .ok (.string (strOfNums x.b)) wq) → Below wd.heap.size wq wz → (Below wd.heap.size wd wz ∧ wz.cell? ⟨b, o + j * 6 + 3, none⟩ = some (.slice Ab nb cb) ∧ (convert 35 9 (.slice Ab nb cb)).run Try.prog wz = .ok (.string (strOfNums x.b)) wz) from fun wq wz h hB => by
        have hBz := h.1.trans hB
        exact ⟨hBz, (hBz.cell (p := ⟨b, o + j * 6 + 3, none⟩) (Nat.lt_of_lt_of_le hbl hwds)).trans HX3.out, run_string_rd wz 35 5 9 Try.underlying35 Try.underlying5 Try.underlying9 _ Ab nb cb x.b ((hbR.below HBd.out).below (hBz.mono hwds))⟩)
      have hst0 := HSB.out wd wd.drew ⟨Below.refl _ _, HX3.out, run_string_rd wd 35 5 9 Try.underlying35 Try.underlying5 Try.underlying9 _ Ab nb cb x.b (hbR.below HBd.out)⟩ (Below.refl _ _).drew
      have HE := Lib.hid (fun (wq : World) (h : (Below wd.heap.size wd wq ∧ wq.cell? ⟨b, o + j * 6 + 3, none⟩ = some (.slice Ab nb cb) ∧ (convert 35 9 (.slice Ab nb cb)).run Try.prog wq = .ok (.string (strOfNums x.b)) wq)) => (show OwnV 9 (wq.alloc (.cells #[] 9)) wd.heap.size (.slice (some ⟨wq.heap.size, 0, none⟩) 0 0) [] ∧ (Below wd.heap.size wd (wq.alloc (.cells #[] 9)) ∧ (wq.alloc (.cells #[] 9)).cell? ⟨b, o + j * 6 + 3, none⟩ = some (.slice Ab nb cb) ∧ (convert 35 9 (.slice Ab nb cb)).run Try.prog (wq.alloc (.cells #[] 9)) = .ok (.string (strOfNums x.b)) (wq.alloc (.cells #[] 9))) from
        ⟨⟨rfl, .inr ⟨wq.heap.size, 0, #[], rfl, h.1.size, heap_alloc_new wq _, Nat.le_refl _, by unfold maxLen; omega, rfl, rfl⟩⟩, HSB.out wq _ h ((Below.refl _ _).alloc h.1.size _)⟩))
      have H1 := Lib.hid (fun (wq : World) (h : (Below wd.heap.size wd wq ∧ wq.cell? ⟨b, o + j * 6 + 3, none⟩ = some (.slice Ab nb cb) ∧ (convert 35 9 (.slice Ab nb cb)).run Try.prog wq = .ok (.string (strOfNums x.b)) wq)) => (show RdV (wq.alloc (.cells #[strV x.b] 9)) (wq.alloc (.cells #[strV x.b] 9)).heap.size (some ⟨wq.heap.size, 0, none⟩) 1 [strV x.b] ∧ (Below wd.heap.size wd (wq.alloc (.cells #[strV x.b] 9)) ∧ (wq.alloc (.cells #[strV x.b] 9)).cell? ⟨b, o + j * 6 + 3, none⟩ = some (.slice Ab nb cb) ∧ (convert 35 9 (.slice Ab nb cb)).run Try.prog (wq.alloc (.cells #[strV x.b] 9)) = .ok (.string (strOfNums x.b)) (wq.alloc (.cells #[strV x.b] 9))) from
        ⟨one_at wq 9 (strV x.b), HSB.out wq _ h ((Below.refl _ _).alloc h.1.size _)⟩))
      have HA2 := Lib.hid (fun (wq : World) (e : Nat) (h : (Below wd.heap.size wd wq ∧ wq.cell? ⟨b, o + j * 6 + 3, none⟩ = some (.slice Ab nb cb) ∧ (convert 35 9 (.slice Ab nb cb)).run Try.prog wq = .ok (.string (strOfNums x.b)) wq)) (hE : OwnV 9 wq wd.heap.size (.slice (some ⟨e, 0, none⟩) 0 0) []) => (show ∃ v y, (Builtin.append_ #[44, 44] 44 #[.slice (some ⟨e, 0, none⟩) 0 0, .slice An nn cn]).run Try.prog wq = .ok v y ∧ ∃ A2 c2, v = .slice A2 nn c2 ∧ OwnV 9 y wd.heap.size (.slice A2 nn c2) ((L0 ++ M0).map strV) ∧ Below wd.heap.size wq y ∧ wq.grownBy y (some e) from by
        have hrd := HSd.out wq h.1.size (fun k hk _ => h.1.block k hk)
        obtain ⟨A', c', y, r1, r2, r3, r4⟩ := run_append_v (P := Try.prog) wq wd.heap.size 44 44 9 (.string ⟨#[]⟩) 16 Try.underlying44 infoS rfl (some ⟨e, 0, none⟩) 0 0 [] rfl hE _ An nn cn ((L0 ++ M0).map strV) hrd (strV_one _) (by omega) (by unfold maxLen; omega) h.1.size
        rw [Nat.zero_add] at r1 r2
        rw [List.nil_append] at r2
        exact ⟨_, y, r1, A', c', rfl, r2, r3, r4⟩))
      have HA10 := Lib.hid (fun (wq : World) (A2 : Option Addr) (c2 xx Bx : Nat) (h : (Below wd.heap.size wd wq ∧ wq.cell? ⟨b, o + j * 6 + 3, none⟩ = some (.slice Ab nb cb) ∧ (convert 35 9 (.slice Ab nb cb)).run Try.prog wq = .ok (.string (strOfNums x.b)) wq)) (hO : OwnV 9 wq wd.heap.size (.slice A2 nn c2) ((L0 ++ M0).map strV)) (hx : RdV wq Bx (some ⟨xx, 0, none⟩) 1 [strV x.b]) => (show ∃ v y, (Builtin.append_ #[44, 44] 44 #[.slice A2 nn c2, .slice (some ⟨xx, 0, none⟩) 1 1]).run Try.prog wq = .ok v y ∧ ∃ A9 c9, v = .slice A9 (nn + 1) c9 ∧ OwnV 9 y wd.heap.size (.slice A9 (nn + 1) c9) ((L0 ++ M0).map strV ++ [strV x.b]) ∧ Below wd.heap.size wq y from by
        obtain ⟨A', c', y, r1, r2, r3, _⟩ := run_append_v (P := Try.prog) wq wd.heap.size 44 44 9 (.string ⟨#[]⟩) 16 Try.underlying44 infoS rfl A2 nn c2 ((L0 ++ M0).map strV) (by rw [List.length_map]; exact hRl) hO Bx (some ⟨xx, 0, none⟩) 1 1 [strV x.b] hx (strV_one [x.b]) (by omega) (by unfold maxLen; omega) h.1.size
        exact ⟨_, y, r1, A', c', rfl, r2, r3⟩))
      go_cut [15] from 200 (fun s wx => ∃ A' c', s = .slice A' (nn + 1) c' ∧ Hid (OwnV 9 wx wd.heap.size (.slice A' (nn + 1) c') ((L0 ++ M0).map strV ++ [strV x.b])) ∧ Hid (Below wd.heap.size wd wx))
      case first =>
        refine wp_region_held_drew (S := fun wq => Below wd.heap.size wd wq ∧ wq.cell? ⟨b, o + j * 6 + 3, none⟩ = some (.slice Ab nb cb) ∧ (convert 35 9 (.slice Ab nb cb)).run Try.prog wq = .ok (.string (strOfNums x.b)) wq) (by kernel_rfl) ?s_0 (fun hHeld => ?_)
        case s_0 => exact hst0
        clear hst0
        refine wpAnyH_take (i := 1) (oi := { dst := some 92, op := Go.Op.move (Go.Operand.tmp 15), type := 44, pos := "law.go:185", after := #[], guard := none }) (v := ?v_1t1) rfl (by kernel_rfl) (by kernel_rfl) (by kernel_rfl) (fun _ _ _ h => h) (Or.inl ⟨by rfl, ?y_1t1⟩) (by assumption) ?_
        case y_1t1 => (intro wq hSw; (try dsimp only at hSw); go_simp; first | done | with_reducible rfl)
        try simp only [Act.put, List.setIfInBounds_toArray, List.set_cons_zero, List.set_cons_succ]
        refine wpAnyH_take (i := 3) (oi := { dst := some 94, op := Go.Op.move (Go.Operand.tmp 0), type := 22, pos := "law.go:185", after := #[], guard := none }) (v := ?v_3t1) rfl (by kernel_rfl) (by kernel_rfl) (by kernel_rfl) (fun _ _ _ h => h) (Or.inl ⟨by rfl, ?y_3t1⟩) (by assumption) ?_
        case y_3t1 => (intro wq hSw; (try dsimp only at hSw); go_simp; first | done | with_reducible rfl)
        try simp only [Act.put, List.setIfInBounds_toArray, List.set_cons_zero, List.set_cons_succ]
        refine wpAnyH_take (i := 4) (oi := { dst := some 95, op := Go.Op.move (Go.Operand.tmp 19), type := 3, pos := "law.go:185", after := #[], guard := none }) (v := ?v_4t1) rfl (by kernel_rfl) (by kernel_rfl) (by kernel_rfl) (fun _ _ _ h => h) (Or.inl ⟨by rfl, ?y_4t1⟩) (by assumption) ?_
        case y_4t1 => (intro wq hSw; (try dsimp only at hSw); go_simp; first | done | with_reducible rfl)
        try simp only [Act.put, List.setIfInBounds_toArray, List.set_cons_zero, List.set_cons_succ]
        refine wpAnyH_take (i := 5) (oi := { dst := some 96, op := Go.Op.indexAddr 22 (Go.Operand.tmp 94) (Go.Operand.tmp 95), type := 0, pos := "law.go:185", after := #[{ on := 3, ground := Go.Ground.data }, { on := 4, ground := Go.Ground.data }], guard := none }) (v := ?v_5t1) rfl (by kernel_rfl) (by kernel_rfl) (by kernel_rfl) (fun _ _ _ h => h) (Or.inl ⟨by rfl, ?y_5t1⟩) (by assumption) ?_
        case y_5t1 => (intro wq hSw; (try dsimp only at hSw); go_simp; first | done | with_reducible rfl)
        try simp only [Act.put, List.setIfInBounds_toArray, List.set_cons_zero, List.set_cons_succ]
        refine wpAnyH_take (i := 6) (oi := { dst := some 97, op := Go.Op.fieldAddr 39 (Go.Operand.tmp 96) 3, type := 0, pos := "law.go:185", after := #[{ on := 5, ground := Go.Ground.data }], guard := none }) (v := ?v_6t1) rfl (by kernel_rfl) (by kernel_rfl) (by kernel_rfl) (fun _ _ _ h => h) (Or.inl ⟨by rfl, ?y_6t1⟩) (by assumption) ?_
        case y_6t1 => (intro wq hSw; (try dsimp only at hSw); go_simp; first | done | with_reducible rfl)
        try simp only [Act.put, List.setIfInBounds_toArray, List.set_cons_zero, List.set_cons_succ]
        refine wpAnyH_take (i := 7) (oi := { dst := some 98, op := Go.Op.load 35 (Go.Operand.tmp 97), type := 35, pos := "law.go:185", after := #[{ on := 6, ground := Go.Ground.data }], guard := none }) (v := ?v_7t1) rfl (by kernel_rfl) (by kernel_rfl) (by kernel_rfl) (fun _ _ _ h => h) (Or.inl ⟨by rfl, ?y_7t1⟩) (by assumption) ?_
        case y_7t1 => (intro wq hSw; (try dsimp only at hSw); go_simp; first | done | with_reducible rfl)
        try simp only [Act.put, List.setIfInBounds_toArray, List.set_cons_zero, List.set_cons_succ]
        refine wpAnyH_take (i := 8) (oi := { dst := some 99, op := Go.Op.convert 35 9 (Go.Operand.tmp 98), type := 9, pos := "law.go:185", after := #[{ on := 7, ground := Go.Ground.data }], guard := none }) (v := ?v_8t1) rfl (by kernel_rfl) (by kernel_rfl) (by kernel_rfl) (fun _ _ _ h => h) (Or.inl ⟨by rfl, ?y_8t1⟩) (by assumption) ?_
        case y_8t1 => (intro wq hSw; (try dsimp only at hSw); go_simp; first | done | with_reducible rfl)
        try simp only [Act.put, List.setIfInBounds_toArray, List.set_cons_zero, List.set_cons_succ]
        refine wpAnyH_ready (rs := [0, 9]) (by kernel_rfl) (by simp) ?_
        refine AllReadyH.cons (o := { dst := some 91, op := Go.Op.buildSlice 44 0 #[], type := 44, pos := "law.go:185", after := #[], guard := none }) rfl (fun KQ hKQ => ?_) (AllReadyH.cons (o := { dst := some 100, op := Go.Op.buildSlice 44 1 #[(0, Go.Operand.tmp 99)], type := 44, pos := "law.go:185", after := #[{ on := 8, ground := Go.Ground.data }], guard := none }) rfl (fun KQ hKQ => ?_) (AllReadyH.nil))
        · have hE := HE.out _ (by assumption)
          have hE' := hE.1
          (try rw [size_al] at hE')
          (try rw [size_dr] at hE')
          (try rw [size_al] at hE')
          go_simp
          refine hKQ.out _ _ ?s_0t1 (fun hHeld0 => ?_)
          case s_0t1 => exact hE.2
          clear hKQ KQ
          try simp only [Act.put, List.setIfInBounds_toArray, List.set_cons_zero, List.set_cons_succ]
          refine wpAnyH_ready (rs := [2, 9]) (by kernel_rfl) (by simp) ?_
          refine AllReadyH.cons (o := { dst := some 93, op := Go.Op.call { callee := Go.Callee.builtin Go.Builtin.append, args := #[Go.Operand.tmp 91, Go.Operand.tmp 92], argTypes := #[44, 44] }, type := 44, pos := "law.go:185", after := #[{ on := 0, ground := Go.Ground.data }, { on := 1, ground := Go.Ground.data }], guard := none }) rfl (fun KQ hKQ => ?_) (AllReadyH.cons (o := { dst := some 100, op := Go.Op.buildSlice 44 1 #[(0, Go.Operand.tmp 99)], type := 44, pos := "law.go:185", after := #[{ on := 8, ground := Go.Ground.data }], guard := none }) rfl (fun KQ hKQ => ?_) (AllReadyH.nil))
          · first | (refine step_append rfl _ _ 44 rfl _ _ rfl rfl _ (HA2.out _ _ (by assumption) hE.1) ?_) | (refine step_append rfl _ _ 44 rfl _ _ rfl rfl _ (HA2.out _ _ (by assumption) (hE.1.alloc _)) ?_) | (refine step_append rfl _ _ 44 rfl _ _ rfl rfl _ (HA2.out _ _ (by assumption) hE') ?_)
            rintro v y2 ⟨A2, c2, rfl, hO2, hB2, hG2⟩
            have hs2 := HSB.out _ y2 (by assumption) hB2
            refine hKQ.out _ _ ?s_2t2 (fun hHeld2 => ?_)
            case s_2t2 => exact hs2
            clear hKQ KQ
            try simp only [Act.put, List.setIfInBounds_toArray, List.set_cons_zero, List.set_cons_succ]
            refine wpAnyH_ready (rs := [9]) (by kernel_rfl) (by simp) ?_
            refine AllReadyH.cons (o := { dst := some 100, op := Go.Op.buildSlice 44 1 #[(0, Go.Operand.tmp 99)], type := 44, pos := "law.go:185", after := #[{ on := 8, ground := Go.Ground.data }], guard := none }) rfl (fun KQ hKQ => ?_) AllReadyH.nil
            have h1 := H1.out _ (by assumption)
            have h1' := h1.1
            (try rw [size_al] at h1')
            (try rw [size_dr] at h1')
            (try rw [size_al] at h1')
            go_simp
            refine hKQ.out _ _ ?s_9t3 (fun hHeld9 => ?_)
            case s_9t3 => exact h1.2
            clear hKQ KQ
            try simp only [Act.put, List.setIfInBounds_toArray, List.set_cons_zero, List.set_cons_succ]
            refine wpAnyH_ready (rs := [10]) (by kernel_rfl) (by simp) ?_
            refine AllReadyH.cons (o := { dst := some 101, op := Go.Op.call { callee := Go.Callee.builtin Go.Builtin.append, args := #[Go.Operand.tmp 93, Go.Operand.tmp 100], argTypes := #[44, 44] }, type := 44, pos := "law.go:185", after := #[{ on := 2, ground := Go.Ground.data }, { on := 9, ground := Go.Ground.data }, { on := 2, ground := Go.Ground.chain }], guard := none }) rfl (fun KQ hKQ => ?_) AllReadyH.nil
            first | (refine step_append rfl _ _ 44 rfl _ _ rfl rfl _ (HA10.out _ _ _ _ _ (by assumption) (hO2.alloc _) h1.1) ?_) | (refine step_append rfl _ _ 44 rfl _ _ rfl rfl _ (HA10.out _ _ _ _ _ (by assumption) hO2 (rdv_grown h1' hG2 (by simp) (by simp))) ?_) | (refine step_append rfl _ _ 44 rfl _ _ rfl rfl _ (HA10.out _ _ _ _ _ (by assumption) hO2 (rdv_grown (rdv_alloc h1.1 _) hG2 (by simp) (by simp))) ?_)
            rintro v y10 ⟨A10, c10, rfl, hO10, hB10⟩
            have hs10 := HSB.out _ y10 (by assumption) hB10
            refine hKQ.out _ _ ?s_10t3 (fun hHeld10 => ?_)
            case s_10t3 => exact hs10
            clear hKQ KQ
            try simp only [Act.put, List.setIfInBounds_toArray, List.set_cons_zero, List.set_cons_succ]
            refine wpAnyH_take (i := 11) (oi := { dst := some 15, op := Go.Op.assign (Go.Operand.tmp 101), type := 44, pos := "law.go:185", after := #[{ on := 10, ground := Go.Ground.data }, { on := 10, ground := Go.Ground.chain }, { on := 0, ground := Go.Ground.phase }, { on := 1, ground := Go.Ground.phase }, { on := 2, ground := Go.Ground.phase }, { on := 3, ground := Go.Ground.phase }, { on := 4, ground := Go.Ground.phase }, { on := 5, ground := Go.Ground.phase }, { on := 6, ground := Go.Ground.phase }, { on := 7, ground := Go.Ground.phase }, { on := 8, ground := Go.Ground.phase }, { on := 9, ground := Go.Ground.phase }, { on := 10, ground := Go.Ground.phase }], guard := none }) (v := ?v_11t3) rfl (by kernel_rfl) (by kernel_rfl) (by kernel_rfl) (fun _ _ _ h => h) (Or.inl ⟨by rfl, ?y_11t3⟩) (by assumption) ?_
            case y_11t3 => (intro wq hSw; (try dsimp only at hSw); go_simp; first | done | with_reducible rfl)
            try simp only [Act.put, List.setIfInBounds_toArray, List.set_cons_zero, List.set_cons_succ]
            refine wpAnyH_done (by kernel_rfl) ?_ _
            go_wp2_with fail
            go_meet
            case rel => exact ⟨A10, c10, rfl, hO10, hs10.1⟩
          · have h1 := H1.out _ (by assumption)
            have h1' := h1.1
            (try rw [size_al] at h1')
            (try rw [size_dr] at h1')
            (try rw [size_al] at h1')
            go_simp
            refine hKQ.out _ _ ?s_9t2 (fun hHeld9 => ?_)
            case s_9t2 => exact h1.2
            clear hKQ KQ
            try simp only [Act.put, List.setIfInBounds_toArray, List.set_cons_zero, List.set_cons_succ]
            refine wpAnyH_ready (rs := [2]) (by kernel_rfl) (by simp) ?_
            refine AllReadyH.cons (o := { dst := some 93, op := Go.Op.call { callee := Go.Callee.builtin Go.Builtin.append, args := #[Go.Operand.tmp 91, Go.Operand.tmp 92], argTypes := #[44, 44] }, type := 44, pos := "law.go:185", after := #[{ on := 0, ground := Go.Ground.data }, { on := 1, ground := Go.Ground.data }], guard := none }) rfl (fun KQ hKQ => ?_) AllReadyH.nil
            first | (refine step_append rfl _ _ 44 rfl _ _ rfl rfl _ (HA2.out _ _ (by assumption) hE.1) ?_) | (refine step_append rfl _ _ 44 rfl _ _ rfl rfl _ (HA2.out _ _ (by assumption) (hE.1.alloc _)) ?_) | (refine step_append rfl _ _ 44 rfl _ _ rfl rfl _ (HA2.out _ _ (by assumption) hE') ?_)
            rintro v y2 ⟨A2, c2, rfl, hO2, hB2, hG2⟩
            have hs2 := HSB.out _ y2 (by assumption) hB2
            refine hKQ.out _ _ ?s_2t4 (fun hHeld2 => ?_)
            case s_2t4 => exact hs2
            clear hKQ KQ
            try simp only [Act.put, List.setIfInBounds_toArray, List.set_cons_zero, List.set_cons_succ]
            refine wpAnyH_ready (rs := [10]) (by kernel_rfl) (by simp) ?_
            refine AllReadyH.cons (o := { dst := some 101, op := Go.Op.call { callee := Go.Callee.builtin Go.Builtin.append, args := #[Go.Operand.tmp 93, Go.Operand.tmp 100], argTypes := #[44, 44] }, type := 44, pos := "law.go:185", after := #[{ on := 2, ground := Go.Ground.data }, { on := 9, ground := Go.Ground.data }, { on := 2, ground := Go.Ground.chain }], guard := none }) rfl (fun KQ hKQ => ?_) AllReadyH.nil
            first | (refine step_append rfl _ _ 44 rfl _ _ rfl rfl _ (HA10.out _ _ _ _ _ (by assumption) (hO2.alloc _) h1.1) ?_) | (refine step_append rfl _ _ 44 rfl _ _ rfl rfl _ (HA10.out _ _ _ _ _ (by assumption) hO2 (rdv_grown h1' hG2 (by simp) (by simp))) ?_) | (refine step_append rfl _ _ 44 rfl _ _ rfl rfl _ (HA10.out _ _ _ _ _ (by assumption) hO2 (rdv_grown (rdv_alloc h1.1 _) hG2 (by simp) (by simp))) ?_)
            rintro v y10 ⟨A10, c10, rfl, hO10, hB10⟩
            have hs10 := HSB.out _ y10 (by assumption) hB10
            refine hKQ.out _ _ ?s_10t4 (fun hHeld10 => ?_)
            case s_10t4 => exact hs10
            clear hKQ KQ
            try simp only [Act.put, List.setIfInBounds_toArray, List.set_cons_zero, List.set_cons_succ]
            refine wpAnyH_take (i := 11) (oi := { dst := some 15, op := Go.Op.assign (Go.Operand.tmp 101), type := 44, pos := "law.go:185", after := #[{ on := 10, ground := Go.Ground.data }, { on := 10, ground := Go.Ground.chain }, { on := 0, ground := Go.Ground.phase }, { on := 1, ground := Go.Ground.phase }, { on := 2, ground := Go.Ground.phase }, { on := 3, ground := Go.Ground.phase }, { on := 4, ground := Go.Ground.phase }, { on := 5, ground := Go.Ground.phase }, { on := 6, ground := Go.Ground.phase }, { on := 7, ground := Go.Ground.phase }, { on := 8, ground := Go.Ground.phase }, { on := 9, ground := Go.Ground.phase }, { on := 10, ground := Go.Ground.phase }], guard := none }) (v := ?v_11t4) rfl (by kernel_rfl) (by kernel_rfl) (by kernel_rfl) (fun _ _ _ h => h) (Or.inl ⟨by rfl, ?y_11t4⟩) (by assumption) ?_
            case y_11t4 => (intro wq hSw; (try dsimp only at hSw); go_simp; first | done | with_reducible rfl)
            try simp only [Act.put, List.setIfInBounds_toArray, List.set_cons_zero, List.set_cons_succ]
            refine wpAnyH_done (by kernel_rfl) ?_ _
            go_wp2_with fail
            go_meet
            case rel => exact ⟨A10, c10, rfl, hO10, hs10.1⟩
        · have h1 := H1.out _ (by assumption)
          have h1' := h1.1
          (try rw [size_al] at h1')
          (try rw [size_dr] at h1')
          (try rw [size_al] at h1')
          go_simp
          refine hKQ.out _ _ ?s_9t1 (fun hHeld9 => ?_)
          case s_9t1 => exact h1.2
          clear hKQ KQ
          try simp only [Act.put, List.setIfInBounds_toArray, List.set_cons_zero, List.set_cons_succ]
          refine wpAnyH_ready (rs := [0]) (by kernel_rfl) (by simp) ?_
          refine AllReadyH.cons (o := { dst := some 91, op := Go.Op.buildSlice 44 0 #[], type := 44, pos := "law.go:185", after := #[], guard := none }) rfl (fun KQ hKQ => ?_) AllReadyH.nil
          have hE := HE.out _ (by assumption)
          have hE' := hE.1
          (try rw [size_al] at hE')
          (try rw [size_dr] at hE')
          (try rw [size_al] at hE')
          go_simp
          refine hKQ.out _ _ ?s_0t5 (fun hHeld0 => ?_)
          case s_0t5 => exact hE.2
          clear hKQ KQ
          try simp only [Act.put, List.setIfInBounds_toArray, List.set_cons_zero, List.set_cons_succ]
          refine wpAnyH_ready (rs := [2]) (by kernel_rfl) (by simp) ?_
          refine AllReadyH.cons (o := { dst := some 93, op := Go.Op.call { callee := Go.Callee.builtin Go.Builtin.append, args := #[Go.Operand.tmp 91, Go.Operand.tmp 92], argTypes := #[44, 44] }, type := 44, pos := "law.go:185", after := #[{ on := 0, ground := Go.Ground.data }, { on := 1, ground := Go.Ground.data }], guard := none }) rfl (fun KQ hKQ => ?_) AllReadyH.nil
          first | (refine step_append rfl _ _ 44 rfl _ _ rfl rfl _ (HA2.out _ _ (by assumption) hE.1) ?_) | (refine step_append rfl _ _ 44 rfl _ _ rfl rfl _ (HA2.out _ _ (by assumption) (hE.1.alloc _)) ?_) | (refine step_append rfl _ _ 44 rfl _ _ rfl rfl _ (HA2.out _ _ (by assumption) hE') ?_)
          rintro v y2 ⟨A2, c2, rfl, hO2, hB2, hG2⟩
          have hs2 := HSB.out _ y2 (by assumption) hB2
          refine hKQ.out _ _ ?s_2t5 (fun hHeld2 => ?_)
          case s_2t5 => exact hs2
          clear hKQ KQ
          try simp only [Act.put, List.setIfInBounds_toArray, List.set_cons_zero, List.set_cons_succ]
          refine wpAnyH_ready (rs := [10]) (by kernel_rfl) (by simp) ?_
          refine AllReadyH.cons (o := { dst := some 101, op := Go.Op.call { callee := Go.Callee.builtin Go.Builtin.append, args := #[Go.Operand.tmp 93, Go.Operand.tmp 100], argTypes := #[44, 44] }, type := 44, pos := "law.go:185", after := #[{ on := 2, ground := Go.Ground.data }, { on := 9, ground := Go.Ground.data }, { on := 2, ground := Go.Ground.chain }], guard := none }) rfl (fun KQ hKQ => ?_) AllReadyH.nil
          first | (refine step_append rfl _ _ 44 rfl _ _ rfl rfl _ (HA10.out _ _ _ _ _ (by assumption) (hO2.alloc _) h1.1) ?_) | (refine step_append rfl _ _ 44 rfl _ _ rfl rfl _ (HA10.out _ _ _ _ _ (by assumption) hO2 (rdv_grown h1' hG2 (by simp) (by simp))) ?_) | (refine step_append rfl _ _ 44 rfl _ _ rfl rfl _ (HA10.out _ _ _ _ _ (by assumption) hO2 (rdv_grown (rdv_alloc h1.1 _) hG2 (by simp) (by simp))) ?_)
          rintro v y10 ⟨A10, c10, rfl, hO10, hB10⟩
          have hs10 := HSB.out _ y10 (by assumption) hB10
          refine hKQ.out _ _ ?s_10t5 (fun hHeld10 => ?_)
          case s_10t5 => exact hs10
          clear hKQ KQ
          try simp only [Act.put, List.setIfInBounds_toArray, List.set_cons_zero, List.set_cons_succ]
          refine wpAnyH_take (i := 11) (oi := { dst := some 15, op := Go.Op.assign (Go.Operand.tmp 101), type := 44, pos := "law.go:185", after := #[{ on := 10, ground := Go.Ground.data }, { on := 10, ground := Go.Ground.chain }, { on := 0, ground := Go.Ground.phase }, { on := 1, ground := Go.Ground.phase }, { on := 2, ground := Go.Ground.phase }, { on := 3, ground := Go.Ground.phase }, { on := 4, ground := Go.Ground.phase }, { on := 5, ground := Go.Ground.phase }, { on := 6, ground := Go.Ground.phase }, { on := 7, ground := Go.Ground.phase }, { on := 8, ground := Go.Ground.phase }, { on := 9, ground := Go.Ground.phase }, { on := 10, ground := Go.Ground.phase }], guard := none }) (v := ?v_11t5) rfl (by kernel_rfl) (by kernel_rfl) (by kernel_rfl) (fun _ _ _ h => h) (Or.inl ⟨by rfl, ?y_11t5⟩) (by assumption) ?_
          case y_11t5 => (intro wq hSw; (try dsimp only at hSw); go_simp; first | done | with_reducible rfl)
          try simp only [Act.put, List.setIfInBounds_toArray, List.set_cons_zero, List.set_cons_succ]
          refine wpAnyH_done (by kernel_rfl) ?_ _
          go_wp2_with fail
          go_meet
          case rel => exact ⟨A10, c10, rfl, hO10, hs10.1⟩
      case rest =>
        obtain ⟨A9, c9, rfl, hO9, hB9⟩ := hcut
        have hlen9 : ((L0 ++ M0).map strV ++ [strV x.b]).length = nn + 1 := by rw [List.length_append, List.length_map, hRl]; rfl
        obtain ⟨g9, rfl⟩ := ownV_some hO9.out hlen9 (by omega)
        have hc9 : nn + 1 ≤ c9 := by
          obtain ⟨S', c', e, h1, _, _⟩ := hO9.out.slice
          rw [hlen9] at e h1
          simp only [Value.slice.injEq] at e
          omega
        have hx3c : wc.cell? ⟨b, o + j * 6 + 3, none⟩ = some (.slice Ab nb cb) := (hB9.out.cell (p := ⟨b, o + j * 6 + 3, none⟩) (Nat.lt_of_lt_of_le hbl hwds)).trans HX3.out
        have hBc := HBd.out.trans (hB9.out.mono hwds)
        have hLc := log_keep HLd.out hB9.out
        have hSc := safe_own hO9.out hlen9 (log_lt HLd.out)
        have C := Lib.hid (wal.append_any p a X D fw fd wc hLc HRun.out.good (by omega) (by omega) hFit hXf Ab nb cb x.b (safe_rd hbR hBc hfr) hxO.b (by omega) hb1 hb2)
        have HNN := Lib.hid (HRun.out.append_noted hj20 hxO.b hxl.1)
        have HBc := Lib.hid hBc
        have HSc := Lib.hid hSc
        clear hRun HSB HE H1 HA2 HA10 hst0 hO9 hB9 hBc hLc hSc
        go_wp2_with fail
        refine C.out.mono ?_
        clear C
        rintro e y1 ⟨fw1, fd1, rfl, hL1, hC1, _, _⟩
        rcases HNN.out with ⟨e1, hN1⟩ | ⟨e1, hN1⟩
        · rw [e1]
          have HE : Hid (Keeps w y1 p a (j + 1) (some ⟨g9, 0, none⟩) (nn + 1) Ax nx (L0.length + s0) false) := keeps_of hL1 hC1 hfr HBc.out hN1 (by rw [List.length_append, hRl]; rfl) (fun r hr => by
            rcases List.mem_append.1 hr with h | h
            · exact hRY r h
            · rw [List.mem_singleton] at h; rw [h]; exact hxO.b) (by rw [List.map_append]; exact HSc.out) (fun h => by cases h)
          clear hN1 hL1 hC1
          go_wp2_with fail
          go_roundw
          case rel => exact ⟨j + 1, _, nn + 1, c9, Ax, nx, cx, _, false, by omega, by go_num, rfl, rfl, rfl, rfl, hc9, HE⟩
          case measure => simp [intOf]; omega
        · have HE : Hid (Keeps w y1 p a (j + 1) (some ⟨g9, 0, none⟩) nn Ax nx (L0.length + s0) false) := keeps_of hL1 hC1 hfr HBc.out hN1 hRn hRY (fun W h1 h2 => rdv_pre (HSc.out W h1 h2) (by rw [List.length_map]; exact hRl)) (fun h => by cases h)
          clear hN1 hL1 hC1 HNN
          generalize (appendO X D x.b).e = ee at *
          have hne : (ee != 0) = true := by simpa using e1
          go_wp2_with fail
          go_roundw
          case rel => exact ⟨j + 1, _, nn, c9, Ax, nx, cx, _, false, by omega, by go_num, rfl, rfl, rfl, rfl, by omega, HE⟩
          case measure => simp [intOf]; omega
    · rw [hk]
      have C := Lib.hid (wal.sync_any p a X D fw fd wd HLd.out HRun.out.good (by omega) (by omega) hFit hXf)
      have HNN := Lib.hid (HRun.out.sync_noted hj20)
      clear hRun
      go_wp2_with fail
      refine C.out.mono ?_
      clear C
      rintro e y1 ⟨fw1, fd1, rfl, hL1, hC1, _, _⟩
      rcases HNN.out with ⟨e1, hN1⟩ | ⟨e1, hN1⟩
      · rw [e1]
        have HE : Hid (Keeps w y1 p a (j + 1) An nn Ax nx nn false) := keeps_of hL1 hC1 hfr HBd.out (hRn ▸ hN1) hRn hRY HSd.out (fun h => by cases h)
        clear hN1 hL1 hC1
        go_wp2_with fail
        go_roundw
        case rel => exact ⟨j + 1, An, nn, cn, Ax, nx, cx, nn, false, by omega, by go_num, rfl, rfl, rfl, rfl, hncn, HE⟩
        case measure => simp [intOf]; omega
      · have HE : Hid (Keeps w y1 p a (j + 1) An nn Ax nx (L0.length + s0) false) := keeps_of hL1 hC1 hfr HBd.out hN1 hRn hRY HSd.out (fun h => by cases h)
        clear hN1 hL1 hC1 HNN
        generalize (syncO X D).e = ee at *
        have hne : (ee == 0) = false := by simpa using e1
        go_wp2_with fail
        go_roundw
        case rel => exact ⟨j + 1, An, nn, cn, Ax, nx, cx, _, false, by omega, by go_num, rfl, rfl, rfl, rfl, hncn, HE⟩
        case measure => simp [intOf]; omega
    · rw [hk]
      obtain ⟨Al, cl, rfl, hl1, hl2, hlR⟩ := HV.out.l
      obtain ⟨nl, hnl⟩ : ∃ nl, x.l.length = nl := ⟨_, rfl⟩
      rw [hnl] at hl1 hlR hx4
      have hlt10 : nl ≤ 10 := by rw [← hnl]; exact hxl.2.1
      have hKr : Recs x.l := fun r hr => ⟨hxO.l r hr, by
        have h2 := hxl.2.2.1
        obtain ⟨u, v, e⟩ := List.append_of_mem hr
        rw [e, List.flatten_append, List.flatten_cons, List.length_append, List.length_append] at h2
        omega⟩
      have C := Lib.hid (wal.rewrite_any p a X D fw fd wd HLd.out HRun.out.good (by omega) (by omega) hFit hXf Al nl cl x.l (safe_rows hlR HBd.out hfr) hxO.l hl1 hl2 (by have := hxl.2.2.1; omega))
      have HNN := Lib.hid (HRun.out.rewrite_noted hj20 hKr hxl.2.1 hxl.2.2.1)
      clear hRun
      go_wp2_with fail
      refine C.out.mono ?_
      clear C
      rintro e y1 ⟨fw1, fd1, rfl, hL1, hC1, hn1, hm1⟩
      have hB1 := HBd.out.trans (below_chg hC1 hfr hwds)
      have hf1 : ∀ k, fw1 k ∨ fd1 k → w.heap.size ≤ k := from_ret (fun k hk => hC1.new k hk) hfr hwds
      have hx4y : y1.cell? ⟨b, o + j * 6 + 4, none⟩ = some (.slice Al nl cl) := by
        have h1 := (below_chg hC1 hfr hwds).cell (p := ⟨b, o + j * 6 + 4, none⟩) hbl
        exact h1.trans hx4
      have CT := Lib.hid (texts_any Al nl cl x.l y1 ((hlR.below hB1).more hB1.size) (by omega))
      rcases HNN.out with ⟨e1, hN1⟩ | ⟨e1, hN1⟩
      · rw [e1]
        have HH := Lib.hid (And.intro hL1 (And.intro hC1 (And.intro hN1 (And.intro hB1 hf1))))
        clear hN1 hL1 hC1 hn1 hm1 hB1 hf1
        go_wp2_with fail
        refine CT.out.mono ?_
        clear CT
        rintro e y2 ⟨S, cs, rfl, hOt, hBt⟩
        have hsc : nl ≤ cs := by
          obtain ⟨S', c', e, h1, _, _⟩ := hOt.slice
          rw [List.length_map, hnl] at e h1
          simp only [Value.slice.injEq] at e
          omega
        have HE : Hid (Keeps w y2 p a (j + 1) S nl Ax nx nl false) := ⟨_, _, fw1, fd1, x.l, [], log_keep HH.out.1 hBt, hnl ▸ HH.out.2.2.1, HH.out.2.2.2.2, HH.out.2.2.2.1.trans (hBt.mono HH.out.2.2.2.1.size), hnl, hxO.l, safe_own hOt (by rw [List.length_map, hnl]) (log_lt HH.out.1), fun h => by cases h⟩
        clear hOt hBt
        go_wp2_with fail
        go_roundw
        case rel => exact ⟨j + 1, S, nl, cs, Ax, nx, cx, nl, false, by omega, by go_num, rfl, rfl, rfl, rfl, hsc, HE⟩
        case measure => simp [intOf]; omega
      · have HH := Lib.hid (And.intro hL1 (And.intro hC1 (And.intro hN1 (And.intro hB1 hf1))))
        clear hN1 hL1 hC1 hn1 hm1 hB1 hf1 HNN
        generalize hee : (rewriteO X D x.l).e = ee at *
        have hne : (ee == 0) = false := by simpa using e1
        have HEE := Lib.hid hee
        clear hee
        go_wp2_with fail
        refine CT.out.mono ?_
        clear CT
        rintro e y2 ⟨S, cs, rfl, hOt, hBt⟩
        have HE : Hid (Keeps w y2 p a (j + 1) An nn S nl (L0.length + s0) true) := ⟨_, _, fw1, fd1, L0 ++ M0, x.l, log_keep HH.out.1 hBt, HH.out.2.2.1, HH.out.2.2.2.2, HH.out.2.2.2.1.trans (hBt.mono HH.out.2.2.2.1.size), hRn, hRY, safe_below (safe_chg HSd.out HH.out.2.1) hBt, fun _ => ⟨hnl, hxO.l, safe_own hOt (by rw [List.length_map, hnl]) (log_lt HH.out.1)⟩⟩
        clear hOt hBt
        go_wp2_with fail
        go_roundw
        case rel => exact ⟨j + 1, An, nn, cn, S, nl, cs, _, true, by omega, by go_num, rfl, rfl, rfl, rfl, hncn, HE⟩
        case measure => simp [intOf]; omega
end Go.Proofs.Ytafdgibkhefplaa.law5
