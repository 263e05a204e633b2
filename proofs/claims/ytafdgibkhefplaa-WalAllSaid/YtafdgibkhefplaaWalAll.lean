/- WalAll answers true: what a log does in any run of operations. Conditions: what the slice reads as. -/
import Derived.Test.YtafdgibkhefplaaBegunW
import Derived.Test.YtafdgibkhefplaaLightW
namespace Go.Proofs.Ytafdgibkhefplaa.law5
open Go.RowKit Go.Proofs.Ytafdgibkhefplaa.kit Go.Proofs.Ytafdgibkhefplaa.nums Go.Proofs.Ytafdgibkhefplaa.ds Go.Proofs.Ytafdgibkhefplaa.ws Go.Proofs.Ytafdgibkhefplaa.ref4 Go.Proofs.Ytafdgibkhefplaa.ref5 Go.Proofs.Ytafdgibkhefplaa.law0 Go.Proofs.Ytafdgibkhefplaa.bytes
set_option linter.unusedVariables false

/-- Whatever is done, both answer alike. -/
theorem doW_any (w : World) (B q a g : Nat) (D : DS) (fd : Nat → Prop) (pw px : Value) (lab : Nat → Nat) (o : OpW) (v3 v4 v5 : Value) (h : BothD w B q a g D fd pw px lab) (hP : Part w a g D pw px lab) (hB : B ≤ w.heap.size) (hs : D.stepped ≤ 980000) (hp : D.powers ≤ 980000) (ho : OpWOk o) (hv : OpWV w B o v3 v4 v5) (hl : LightW o) :
    Calls Try.prog 14 #[.pointer (some ⟨q, 0, none⟩), .agg #[.int .i64 o.kind, .int .i64 o.n, .bool o.made, v3, v4, v5]] w (RetDoW w B q a g D) := by
  obtain ⟨l1, l2, l3, l4⟩ := hl
  have h7 := place_in o.kind 7 (by omega)
  rcases (show placeF o.kind 7 = 0 ∨ placeF o.kind 7 = 1 ∨ placeF o.kind 7 = 2 ∨ placeF o.kind 7 = 3 ∨ placeF o.kind 7 = 4 ∨ placeF o.kind 7 = 5 ∨ placeF o.kind 7 = 6 by omega) with e | e | e | e | e | e | e
  · exact do_0 w B q a g D fd pw px lab o v3 v4 v5 h hP hB hs hp ho hv e l1
  · exact do_1 w B q a g D fd pw px lab o v3 v4 v5 h hP hB hs hp ho hv e
  · exact do_2 w B q a g D fd pw px lab o v3 v4 v5 h hP hB hs hp ho hv e l2 l3
  · exact do_3 w B q a g D fd pw px lab o v3 v4 v5 h hP hB hs hp ho hv e
  · exact do_4 w B q a g D fd pw px lab o v3 v4 v5 h hP hB hs hp ho hv e l4
  · exact do_5 w B q a g D fd pw px lab o v3 v4 v5 h hP hB hs hp ho hv e
  · exact do_6 w B q a g D fd pw px lab o v3 v4 v5 h hP hB hs hp ho hv e l1
/-- Both disks, new, and no log yet. -/
theorem bothd_new {w w1 w2 : World} {a : Nat} {fd : Nat → Prop} (hd : disk.IsDisk w1 a DS.fresh fd) (hf : ∀ k, fd k → w.heap.size ≤ k) (hb : Below w.heap.size w w1) (hr : IsRef w2 w1.heap.size DS.fresh) (hb2 : Below w1.heap.size w1 w2) :
    (∃ lab, BothD (w2.alloc (.cells #[.pointer (some ⟨a, 0, none⟩), .pointer (some ⟨w1.heap.size, 0, none⟩), .pointer none, .pointer none] 33)) w.heap.size w2.heap.size a w1.heap.size DS.fresh fd (.pointer none) (.pointer none) lab ∧ Part (w2.alloc (.cells #[.pointer (some ⟨a, 0, none⟩), .pointer (some ⟨w1.heap.size, 0, none⟩), .pointer none, .pointer none] 33)) a w1.heap.size DS.fresh (.pointer none) (.pointer none) lab)
      ∧ Below w.heap.size w (w2.alloc (.cells #[.pointer (some ⟨a, 0, none⟩), .pointer (some ⟨w1.heap.size, 0, none⟩), .pointer none, .pointer none] 33)) := by
  classical
  have hg := hr.lt
  have h1 := hb.size
  have hal : Below w2.heap.size w2 (w2.alloc (.cells #[.pointer (some ⟨a, 0, none⟩), .pointer (some ⟨w1.heap.size, 0, none⟩), .pointer none, .pointer none] 33)) := (Below.refl _ _).alloc (Nat.le_refl _) _
  refine ⟨⟨fun k => if k = w2.heap.size then 5 else if k = w1.heap.size then 2 else if fd k then 1 else 0, ⟨heap_alloc_new w2 _, if_pos rfl, hd.keep (fun k hk => ?_), fun k hk => ?_, hr.keep (hal.block _ hg), ?_, fun k hk => ?_, DS.Good.fresh⟩, .inl ⟨rfl, rfl⟩⟩, (hb.trans (hb2.mono h1)).trans (hal.mono (by omega))⟩
  · have := hd.lt k hk
    exact (hal.block k (by omega)).trans (hb2.block k this)
  · have := hd.lt k hk
    rw [if_neg (by omega), if_neg (by omega), if_pos hk]
  · rw [if_neg (by omega), if_pos rfl]
  · rw [if_neg (by omega), if_neg (by omega), if_neg (fun hk2 => by have := hf k hk2; omega)]

set_option maxRecDepth 100000 in
set_option maxHeartbeats 1000000 in
theorem all_walk (A : Option Addr) (n c : Nat) (os : List OpW) (w : World) (hR : RdOpW w w.heap.size A n os) (hO : ∀ x ∈ os, OpWOk x) (hnc : n ≤ c) (hcm : c ≤ maxLen) :
    Calls Try.prog 3 #[.slice A n c] w fun e w' => e = .returned (.bool true) ∧ Below w.heap.size w w' := by
  have hx1 := hcm
  unfold maxLen at hx1
  have HO := Lib.hid hO
  go_enter Try.func3, Try.ntmps3
  go_wp2_with fail
  refine (begun_any w).mono ?_
  rintro e w1 ⟨rfl, hB1⟩
  have hR1 := hR.below hB1
  have C1 := Lib.hid (light_any A n c 40 os w1 _ hR1 (by omega) (by omega))
  clear hR hO
  go_wp2_with fail
  refine C1.out.mono ?_
  clear C1
  rintro e w2 ⟨r, rfl, hr, rfl⟩
  rcases r with _ | _
  · go_wp2_with fail
    go_ret
    exact ⟨rfl, hB1⟩
  obtain ⟨hn, hl⟩ := hr rfl
  have HL := Lib.hid hl
  clear hr hl
  go_wp2_with fail
  refine (disk.new_any w1).mono ?_
  rintro e w3 ⟨a, fp, rfl, hd, hf, hB3⟩
  go_wp2_with fail
  refine (ref4.new_any w3).mono ?_
  rintro e w4 ⟨rfl, hr4, hB4⟩
  obtain ⟨⟨lab, hb, hpp⟩, hB14⟩ := bothd_new hd hf hB3 hr4 hB4
  have HC := Lib.hid (show ∀ j, j < n → _ from fun j hj => (hR1.at_ hj))
  have HN := Lib.hid hR1.1
  have h10 := hB1.size
  have HB := Lib.hid (And.intro hb (And.intro hpp hB14))
  clear hB3 hB4 hr4 hd hf hR1 hb hpp hB14
  go_upto_region 6 with (fail)
  generalize hW : w4.alloc (.cells #[.pointer (some ⟨a, 0, none⟩), .pointer (some ⟨w3.heap.size, 0, none⟩), .pointer none, .pointer none] 33) = w5 at *
  generalize w3.heap.size = g at *
  generalize w4.heap.size = q at *
  obtain ⟨hb, hpp, hB14⟩ := HB.out
  have COp := Lib.hid (open2_any w5 w1.heap.size q a g DS.fresh fp _ _ lab hb hB14.size (show (0 : Nat) ≤ 990000 by omega) (show (0 : Nat) ≤ 990000 by omega))
  have hnear := open_near DS.fresh DS.Good.fresh (show (0 : Nat) ≤ 999000 by omega)
  clear hb hpp HB hW
  go_wp2_with fail
  refine COp.out.mono ?_
  clear COp
  rintro e w6 ⟨rfl, fd6, pw6, px6, lab6, hb6, hp6, hB6⟩
  have hs6 : (openO DS.fresh).D.stepped ≤ 3 := by have := hnear.2.1; have h0 : DS.fresh.stepped = 0 := rfl; omega
  have hp6' : (openO DS.fresh).D.powers ≤ 0 := by have := hnear.2.2; have h0 : DS.fresh.powers = 0 := rfl; omega
  generalize (openO DS.fresh).D = D6 at *
  have hB16 := hB14.trans hB6
  clear hnear hB14 hB6
  go_wp2_with fail
  go_loopw [4] (fun i wr => ∃ (j : Nat) (D : DS) (fd : Nat → Prop) (pw px : Value) (lab : Nat → Nat), j ≤ n ∧ i = .int .i64 j ∧ BothD wr w1.heap.size q a g D fd pw px lab ∧ Part wr a g D pw px lab ∧ Below w1.heap.size w1 wr ∧ D.stepped ≤ 3 + 4 * j ∧ D.powers ≤ j) (fun i _ => n - (intOf i).toNat)
  case atStart => exact ⟨0, D6, fd6, pw6, px6, lab6, by omega, rfl, hb6, hp6, hB16, by omega, by omega⟩
  case round =>
    clear hb6 hp6 hB16
    obtain ⟨j, D, fd, pw, px, labj, hj, rfl, hb', hpp', hB, hs, hp⟩ := hrel
    by_cases hlt : j < n
    · obtain ⟨b, o, x, rfl, hbl, hx, h0, h1, h2, v3, v4, v5, h3, h4, h5, hv⟩ := HC.out j hlt
      have hcc := fun i => hB.cell (p := ⟨b, i, none⟩) (show b < w1.heap.size by omega)
      rw [← hcc] at h0 h1 h2 h3 h4 h5
      have hxl := HL.out x (List.mem_of_getElem? hx)
      have C := Lib.hid (doW_any wr w1.heap.size q a g D fd pw px labj x v3 v4 v5 hb' hpp' hB.size (by omega) (by omega) (HO.out x (List.mem_of_getElem? hx)) ((hv.more h10).below hB) hxl)
      have i0 : (0 : Int) ≤ j ∧ (j : Int) < n := by omega
      clear hcc hb' hpp'
      go_wp2_with fail
      refine C.out.mono ?_
      clear C
      rintro e y1 ⟨rfl, D1, fd1, pw1, px1, lab1, hb1, hp1, hY1, hs1, hpo1⟩
      have C2 := Lib.hid (same2_any y1 w1.heap.size q a g D1 fd1 pw1 px1 lab1 hb1 hp1 (by omega) (by omega))
      have HBB := Lib.hid (And.intro hb1 (And.intro hp1 (hB.trans hY1)))
      clear h0 h1 h2 h3 h4 h5 hv hb1 hp1 hY1 hB
      go_wp2_with fail
      refine C2.out.mono ?_
      clear C2
      rintro e y2 ⟨rfl, hY2⟩
      obtain ⟨hb1, hp1, hB1y⟩ := HBB.out
      have HBC := Lib.hid (And.intro (hb1.below hY2) (And.intro (hp1.below hb1 hY2) (hB1y.trans (hY2.mono hB1y.size))))
      clear hb1 hp1 hB1y hY2 HBB
      go_wp2_with fail
      go_roundw
      case rel => exact ⟨j + 1, D1, fd1, pw1, px1, lab1, by omega, by go_num, HBC.out.1, HBC.out.2.1, HBC.out.2.2, by omega, by omega⟩
      case measure => simp [intOf]; omega
    · obtain rfl : j = n := by omega
      have hbw := hB1.trans (hB.mono h10)
      clear hb' hpp' hB
      go_wp2_with fail
      go_ret
      exact ⟨rfl, hbw⟩
end Go.Proofs.Ytafdgibkhefplaa.law5
