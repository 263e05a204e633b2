/- The statements' own do, of logs: arming, failing, opening. Conditions: those that each theorem names. -/
import Derived.Test.YtafdgibkhefplaaSameW
import Derived.Test.YtafdgibkhefplaaJoin1
import Derived.StillTailTactics
namespace Go.Proofs.Ytafdgibkhefplaa.law5
open Go.RowKit Go.Proofs.Ytafdgibkhefplaa.kit Go.Proofs.Ytafdgibkhefplaa.nums Go.Proofs.Ytafdgibkhefplaa.ds Go.Proofs.Ytafdgibkhefplaa.ws Go.Proofs.Ytafdgibkhefplaa.ref4 Go.Proofs.Ytafdgibkhefplaa.ref5 Go.Proofs.Ytafdgibkhefplaa.law0
set_option linter.unusedVariables false

/-- What do ends in. -/
def RetDoW (w : World) (B q a g : Nat) (D : DS) (e : Ending) (w' : World) : Prop :=
  e = .returned (.bool true) ∧ ∃ D' fd' pw' px' lab', BothD w' B q a g D' fd' pw' px' lab' ∧ Part w' a g D' pw' px' lab' ∧ Below B w w' ∧ D'.stepped ≤ D.stepped + 4 ∧ D'.powers ≤ D.powers + 1
/-- The program's disk turned, then the document's did. -/
theorem BothD.turned {w1 w2 w3 : World} {B q a g : Nat} {D D' : DS} {fd fd' : Nat → Prop} {pw px : Value} {lab : Nat → Nat} (h : BothD w1 B q a g D fd pw px lab) (hP : Part w1 a g D pw px lab) (hB : B ≤ w1.heap.size) (hd : disk.IsDisk w2 a D' fd') (hc : disk.Chg fd fd' w1 w2) (hr : IsRef w3 g D') (hG : w2.grownBy w3 (some g)) (hgood : D'.Good) :
    (∃ lab', BothD w3 B q a g D' fd' pw px lab' ∧ ((∀ X, Fit X D → Fit X D') → Part w3 a g D' pw px lab')) ∧ Below B w1 w3 := by
  obtain ⟨lab', l0, l1, _, _⟩ := relab lab w1.heap.size fd' (fun _ => False) (fun _ => False) (fun _ _ _ h => h) (fun _ _ _ h => h) (fun _ _ h => h.elim)
  have hlq := h.lq
  have hlg := h.lg
  have hsame : ∀ k, lab k ≠ 1 → lab k ≠ 2 → k < w1.heap.size → w3.heap[k]? = w1.heap[k]? := fun k h1 h2 hk => by
    rw [hG.block k (Nat.lt_of_lt_of_le hk hc.size) (by intro e; obtain rfl : k = g := Option.some.inj e; exact h2 hlg)]
    exact hc.block k hk (fun hf => h1 (h.ld k hf))
  have hld : ∀ k, fd' k → lab' k = 1 := fun k hk => by
    rcases hc.new k hk with h1 | h1
    · rw [l0 k (h.d.lt k h1)]; exact h.ld k h1
    · exact l1 k h1 hk
  have hg' : lab' g = 2 := by rw [l0 g h.r.lt]; exact hlg
  refine ⟨⟨lab', ⟨(hsame q (by rw [hlq]; decide) (by rw [hlq]; decide) h.qb.lt).trans h.qb, by rw [l0 q h.qb.lt]; exact hlq, hd.keep (fun k hk => hG.block k (hd.lt k hk) (by intro e; obtain rfl : k = g := Option.some.inj e; have := hld k hk; omega)), hld, hr, hg', fun k hk => by rw [l0 k (by omega)]; exact h.lB k hk, hgood⟩, fun hfit => ?_⟩, ?_⟩
  · rcases hP with hP | ⟨p, x, base, X, fw, v, h1, h2, h3, h4, h5, h6, h7, h8, h9, h10⟩
    · exact .inl hP
    · refine .inr ⟨p, x, base, X, fw, v, h1, h2, h3.keep (fun k hk => hsame k (by rw [h4 k hk]; decide) (by rw [h4 k hk]; decide) (h3.lt k hk)), fun k hk => by rw [l0 k (h3.lt k hk)]; exact h4 k hk, ⟨(hsame x (by rw [h7]; decide) (by rw [h7]; decide) h5.blk.lt).trans h5.blk, ?_, hr⟩, by have := hc.size; have := hG.size; omega, by rw [l0 x h5.blk.lt]; exact h7, fun k hk => by rw [l0 k (h5.own.lt k hk).2]; exact h8 k hk, hfit X h9, h10⟩
      refine ⟨h5.own.1, ?_⟩
      rcases h5.own.2 with hn | ⟨k, cap, cur, hv, hk, hcc, r⟩
      · exact .inl hn
      · have hl4 := h8 k (by rw [hv]; rfl)
        exact .inr ⟨k, cap, cur, hv, hk, by rw [hsame k (by rw [hl4]; decide) (by rw [hl4]; decide) (Array.getElem?_eq_some_iff.1 hcc).1]; exact hcc, r⟩
  · have hgB : B ≤ g := h.lo (by rw [hlg]; decide)
    refine ⟨hG.os.trans hc.os, hG.tape.trans hc.tape, hG.output.trans hc.output, Nat.le_trans hc.size hG.size, fun k hk => ?_⟩
    rw [hG.block k (by have := hc.size; omega) (by intro e; have := Option.some.inj e; omega)]
    exact hc.block k (by omega) (fun hf => by have := h.lo (k := k) (by rw [h.ld k hf]; decide); omega)
theorem fit_arm {X : WS} {D : DS} {n : Int} (h : Fit X D) : Fit X (D.armS n) := ⟨h.file, h.g0, h.g1, h.recs, h.many, h.life, h.s1, h.size, h.room⟩
theorem over_life {X : WS} {D : DS} (h : D.powers ≠ X.life) : X.over D = true := by unfold WS.over; simp [h]
section
variable (w : World) (B q a g : Nat) (D : DS) (fd : Nat → Prop) (pw px : Value) (lab : Nat → Nat) (o : OpW) (v3 v4 v5 : Value) (h : BothD w B q a g D fd pw px lab) (hP : Part w a g D pw px lab) (hB : B ≤ w.heap.size) (hs : D.stepped ≤ 980000) (hp : D.powers ≤ 980000) (ho : OpWOk o) (hv : OpWV w B o v3 v4 v5)
include h hP hB hs hp ho hv
set_option maxRecDepth 100000 in
set_option maxHeartbeats 2000000 in
theorem do_3 (hkind : placeF o.kind 7 = 3) :
    Calls Try.prog 14 #[.pointer (some ⟨q, 0, none⟩), .agg #[.int .i64 o.kind, .int .i64 o.n, .bool o.made, v3, v4, v5]] w (RetDoW w B q a g D) := by
  go_enter Try.func14, Try.ntmps14
  have CP := Lib.hid (place_any o.kind 7 (w.alloc (.cells #[.int .i64 o.kind, .int .i64 o.n, .bool o.made, v3, v4, v5] 39)) ho.kind.1 ho.kind.2 (by omega))
  have hal : Below w.heap.size w (w.alloc (.cells #[.int .i64 o.kind, .int .i64 o.n, .bool o.made, v3, v4, v5] 39)) := (Below.refl _ _).alloc (Nat.le_refl _) _
  have hb0 := h.below hal
  have hp0 := hP.below h hal
  have hblk : Blk 39 (w.alloc (.cells #[.int .i64 o.kind, .int .i64 o.n, .bool o.made, v3, v4, v5] 39)) w.heap.size [.int .i64 o.kind, .int .i64 o.n, .bool o.made, v3, v4, v5] := heap_alloc_new w _
  have hB0 : Below B w (w.alloc (.cells #[.int .i64 o.kind, .int .i64 o.n, .bool o.made, v3, v4, v5] 39)) := hal.mono hB
  have hv1 := hv.below hB0
  have hof : ¬ fd w.heap.size := fun hf => by have := h.d.lt _ hf; omega
  have hog : w.heap.size ≠ g := by have := h.r.lt; omega
  have hoB : B ≤ w.heap.size := hB
  rw [hkind] at CP
  clear h hv hP hal
  go_upto_region 1 with (fail)
  generalize (w.alloc (.cells #[.int .i64 o.kind, .int .i64 o.n, .bool o.made, v3, v4, v5] 39)) = w1 at *
  generalize w.heap.size = go at *
  have hgo1 : go < w1.heap.size := hblk.lt
  have hB1 : B ≤ w1.heap.size := by omega
  have c0 := hblk.cell 0
  have c1 := hblk.cell 1
  have c2 := hblk.cell 2
  have c3 := hblk.cell 3
  have c4 := hblk.cell 4
  have c5 := hblk.cell 5
  simp only [List.getElem?_cons_zero, List.getElem?_cons_succ] at c0 c1 c2 c3 c4 c5
  have q0 : w1.cell? ⟨q, 0, none⟩ = some (.pointer (some ⟨a, 0, none⟩)) := hb0.qb.cell 0
  have q1 : w1.cell? ⟨q, 1, none⟩ = some (.pointer (some ⟨g, 0, none⟩)) := hb0.qb.cell 1
  have HB1 := Lib.hid hb0
  have HP1 := Lib.hid hp0
  have HBk := Lib.hid hblk
  clear hb0 hp0 hblk
  go_wp2_with fail
  refine CP.out.mono ?_
  clear CP
  rintro e w2 ⟨rfl, rfl⟩
  have C1 := Lib.hid (fun (W : World) (hW : BothD W B q a g D fd pw px lab) => disk.arm_any a D fd W hW.d hW.good (by omega) (by omega) o.n ho.n)
  clear c0 c2 c3 c4 c5
  go_upto_region 3 with (fail)
  go_still_tail 6, (by kernel_rfl)
  change wpList _ _ _ _ _ w1.drew
  have H2 := Lib.hid (HB1.out.same (w' := w1.drew) (fun _ _ _ => rfl))
  have P2 := Lib.hid (HP1.out.same (w' := w1.drew) (Nat.le_refl _) H2.out.r (fun _ _ _ => rfl))
  have C2 := Lib.hid (C1.out w1.drew H2.out)
  clear c1 q0 q1 C1
  go_wp2_with fail
  refine C2.out.mono ?_
  clear C2
  rintro e y1 ⟨fd1, rfl, hI1, hc1⟩
  have hgq : g < w1.drew.heap.size := H2.out.r.lt
  have hr1 : IsRef y1 g D := H2.out.r.keep (hc1.block g hgq (fun hf => by have h1 := H2.out.ld g hf; have h2 := H2.out.lg; omega))
  have hq1 : y1.cell? ⟨q, 1, none⟩ = some (.pointer (some ⟨g, 0, none⟩)) := by
    rw [World.cell?_of_block (a := ⟨q, 1, none⟩) (hc1.block q H2.out.qb.lt (fun hf => by have h1 := H2.out.ld q hf; have h2 := H2.out.lq; omega))]
    exact H2.out.qb.cell 1
  have ho1 : y1.cell? ⟨go, 1, none⟩ = some (.int .i64 o.n) := by
    rw [World.cell?_of_block (a := ⟨go, 1, none⟩) (hc1.block go hgo1 hof)]
    exact HBk.out.cell 1
  have r5 := hr1.c5
  have rf := fun i => Blk.frozen hr1 i
  have HR1 := Lib.hid hr1
  have hm : (if o.n < -1 then -1 else o.n) = max o.n (-1) := by split <;> omega
  clear hr1
  go_upto_region 4 with (fail)
  go_still_tail 9, (by kernel_rfl)
  change wpList _ _ _ _ _ y1.drew
  clear hq1 ho1
  go_wp2_with fail
  go_ret
  have hr : IsRef (y1.setCell ⟨g, 5, none⟩ (.int .i64 (max o.n (-1)))).drew g (D.armS o.n) := (HR1.out.set (S' := D.armS o.n) 5 _ (by simp [refV, DS.armS])).keep rfl
  have hG : y1.grownBy (y1.setCell ⟨g, 5, none⟩ (.int .i64 (max o.n (-1)))).drew (some g) := grown_trans (grown_set _ _ _ _) (grown_drew _ _)
  obtain ⟨⟨lab', hb, hpf⟩, hbel⟩ := H2.out.turned P2.out hB1 hI1 hc1 hr hG (H2.out.good.arm ho.n)
  exact ⟨rfl, _, fd1, pw, px, lab', hb, hpf (fun X hF => fit_arm hF), hB0.drew.trans hbel, Nat.le_add_right _ _, Nat.le_add_right _ _⟩
set_option maxRecDepth 100000 in
set_option maxHeartbeats 2000000 in
theorem do_5 (hkind : placeF o.kind 7 = 5) :
    Calls Try.prog 14 #[.pointer (some ⟨q, 0, none⟩), .agg #[.int .i64 o.kind, .int .i64 o.n, .bool o.made, v3, v4, v5]] w (RetDoW w B q a g D) := by
  go_enter Try.func14, Try.ntmps14
  have CP := Lib.hid (place_any o.kind 7 (w.alloc (.cells #[.int .i64 o.kind, .int .i64 o.n, .bool o.made, v3, v4, v5] 39)) ho.kind.1 ho.kind.2 (by omega))
  have hal : Below w.heap.size w (w.alloc (.cells #[.int .i64 o.kind, .int .i64 o.n, .bool o.made, v3, v4, v5] 39)) := (Below.refl _ _).alloc (Nat.le_refl _) _
  have hb0 := h.below hal
  have hp0 := hP.below h hal
  have hblk : Blk 39 (w.alloc (.cells #[.int .i64 o.kind, .int .i64 o.n, .bool o.made, v3, v4, v5] 39)) w.heap.size [.int .i64 o.kind, .int .i64 o.n, .bool o.made, v3, v4, v5] := heap_alloc_new w _
  have hB0 : Below B w (w.alloc (.cells #[.int .i64 o.kind, .int .i64 o.n, .bool o.made, v3, v4, v5] 39)) := hal.mono hB
  have hv1 := hv.below hB0
  have hof : ¬ fd w.heap.size := fun hf => by have := h.d.lt _ hf; omega
  have hog : w.heap.size ≠ g := by have := h.r.lt; omega
  have hoB : B ≤ w.heap.size := hB
  rw [hkind] at CP
  clear h hv hP hal
  go_upto_region 1 with (fail)
  generalize (w.alloc (.cells #[.int .i64 o.kind, .int .i64 o.n, .bool o.made, v3, v4, v5] 39)) = w1 at *
  generalize w.heap.size = go at *
  have hgo1 : go < w1.heap.size := hblk.lt
  have hB1 : B ≤ w1.heap.size := by omega
  have c0 := hblk.cell 0
  have c1 := hblk.cell 1
  have c2 := hblk.cell 2
  have c3 := hblk.cell 3
  have c4 := hblk.cell 4
  have c5 := hblk.cell 5
  simp only [List.getElem?_cons_zero, List.getElem?_cons_succ] at c0 c1 c2 c3 c4 c5
  have q0 : w1.cell? ⟨q, 0, none⟩ = some (.pointer (some ⟨a, 0, none⟩)) := hb0.qb.cell 0
  have q1 : w1.cell? ⟨q, 1, none⟩ = some (.pointer (some ⟨g, 0, none⟩)) := hb0.qb.cell 1
  have HB1 := Lib.hid hb0
  have HP1 := Lib.hid hp0
  have HBk := Lib.hid hblk
  clear hb0 hp0 hblk
  go_wp2_with fail
  refine CP.out.mono ?_
  clear CP
  rintro e w2 ⟨rfl, rfl⟩
  have C1 := Lib.hid (open2_any w1 B q a g D fd pw px lab HB1.out hB1 (by omega) (by omega))
  have HN := Lib.hid (open_near D HB1.out.good (by omega))
  clear c0 c1 c2 c3 c4 c5 q0 q1
  go_wp2_with fail
  refine C1.out.mono ?_
  clear C1
  rintro e y1 ⟨rfl, fd1, pw1, px1, lab1, hb1, hp1, hB2⟩
  go_wp2_with fail
  go_ret
  exact ⟨rfl, _, fd1, pw1, px1, lab1, hb1, hp1, hB0.trans hB2, by have := HN.out.2.1; omega, by have := HN.out.2.2; omega⟩
set_option maxRecDepth 100000 in
set_option maxHeartbeats 2000000 in
theorem do_4 (hkind : placeF o.kind 7 = 4) (hkl : o.keep.length ≤ 10) :
    Calls Try.prog 14 #[.pointer (some ⟨q, 0, none⟩), .agg #[.int .i64 o.kind, .int .i64 o.n, .bool o.made, v3, v4, v5]] w (RetDoW w B q a g D) := by
  go_enter Try.func14, Try.ntmps14
  have CP := Lib.hid (place_any o.kind 7 (w.alloc (.cells #[.int .i64 o.kind, .int .i64 o.n, .bool o.made, v3, v4, v5] 39)) ho.kind.1 ho.kind.2 (by omega))
  have hal : Below w.heap.size w (w.alloc (.cells #[.int .i64 o.kind, .int .i64 o.n, .bool o.made, v3, v4, v5] 39)) := (Below.refl _ _).alloc (Nat.le_refl _) _
  have hb0 := h.below hal
  have hp0 := hP.below h hal
  have hblk : Blk 39 (w.alloc (.cells #[.int .i64 o.kind, .int .i64 o.n, .bool o.made, v3, v4, v5] 39)) w.heap.size [.int .i64 o.kind, .int .i64 o.n, .bool o.made, v3, v4, v5] := heap_alloc_new w _
  have hB0 : Below B w (w.alloc (.cells #[.int .i64 o.kind, .int .i64 o.n, .bool o.made, v3, v4, v5] 39)) := hal.mono hB
  have hv1 := hv.below hB0
  have hof : ¬ fd w.heap.size := fun hf => by have := h.d.lt _ hf; omega
  have hog : w.heap.size ≠ g := by have := h.r.lt; omega
  have hoB : B ≤ w.heap.size := hB
  rw [hkind] at CP
  clear h hv hP hal
  go_upto_region 1 with (fail)
  generalize (w.alloc (.cells #[.int .i64 o.kind, .int .i64 o.n, .bool o.made, v3, v4, v5] 39)) = w1 at *
  generalize w.heap.size = go at *
  have hgo1 : go < w1.heap.size := hblk.lt
  have hB1 : B ≤ w1.heap.size := by omega
  have c0 := hblk.cell 0
  have c1 := hblk.cell 1
  have c2 := hblk.cell 2
  have c3 := hblk.cell 3
  have c4 := hblk.cell 4
  have c5 := hblk.cell 5
  simp only [List.getElem?_cons_zero, List.getElem?_cons_succ] at c0 c1 c2 c3 c4 c5
  have q0 : w1.cell? ⟨q, 0, none⟩ = some (.pointer (some ⟨a, 0, none⟩)) := hb0.qb.cell 0
  have q1 : w1.cell? ⟨q, 1, none⟩ = some (.pointer (some ⟨g, 0, none⟩)) := hb0.qb.cell 1
  have HB1 := Lib.hid hb0
  have HP1 := Lib.hid hp0
  have HBk := Lib.hid hblk
  clear hb0 hp0 hblk
  go_wp2_with fail
  refine CP.out.mono ?_
  clear CP
  rintro e w2 ⟨rfl, rfl⟩
  obtain ⟨Ak, ck, rfl, hkc, hkm, hkR⟩ := hv1.keep
  obtain ⟨nk, hnk⟩ : ∃ nk, o.keep.length = nk := ⟨_, rfl⟩
  rw [hnk] at hkc hkR hkl HBk c5
  have hkb : 0 < nk → ∀ b o', Ak = some ⟨b, o', none⟩ → b < B := fun hn b o' e => by
    obtain ⟨b2, o2, e2, hlt, _⟩ := hkR.2 hn
    rw [e] at e2
    simp only [Option.some.injEq, Addr.mk.injEq, and_true] at e2
    omega
  have C1 := Lib.hid (fun (W : World) (hW : BothD W B q a g D fd pw px lab) (hR : RdV W W.heap.size Ak nk (o.keep.map (Value.int .i64))) => disk.power_any a D fd W hW.d hW.good (by omega) (by omega) Ak nk ck o.keep hR ho.keep (fun hn b o' e hf => by have := hkb hn b o' e; have := hW.lo (k := b) (by rw [hW.ld b hf]; decide); omega) (by omega))
  clear c0 c1 c2 c3 c4 hv1
  try rw [hnk]
  go_upto_region 7 with (fail)
  go_still_tail 6, (by kernel_rfl)
  change wpList _ _ _ _ _ w1.drew
  have H2 := Lib.hid (HB1.out.same (w' := w1.drew) (fun _ _ _ => rfl))
  have P2 := Lib.hid (HP1.out.same (w' := w1.drew) (Nat.le_refl _) H2.out.r (fun _ _ _ => rfl))
  have hkR2 : RdV w1.drew B Ak nk (o.keep.map (Value.int .i64)) := hkR
  have C2 := Lib.hid (C1.out w1.drew H2.out (hkR2.more hB1))
  clear c5 q0 q1 C1
  go_wp2_with fail
  refine C2.out.mono ?_
  clear C2
  rintro e y1 ⟨fd1, rfl, hI1, hc1⟩
  have hgq : g < w1.drew.heap.size := H2.out.r.lt
  have hr1 : IsRef y1 g D := H2.out.r.keep (hc1.block g hgq (fun hf => by have h1 := H2.out.ld g hf; have h2 := H2.out.lg; omega))
  have hq1 : y1.cell? ⟨q, 1, none⟩ = some (.pointer (some ⟨g, 0, none⟩)) := by
    rw [World.cell?_of_block (a := ⟨q, 1, none⟩) (hc1.block q H2.out.qb.lt (fun hf => by have h1 := H2.out.ld q hf; have h2 := H2.out.lq; omega))]
    exact H2.out.qb.cell 1
  have ho1 : y1.cell? ⟨go, 5, none⟩ = some (.slice Ak nk ck) := by
    rw [World.cell?_of_block (a := ⟨go, 5, none⟩) (hc1.block go hgo1 hof)]
    exact HBk.out.cell 5
  have hkR3 : RdV y1.drew B Ak nk (o.keep.map (Value.int .i64)) := hkR2.keep (fun b o' hb => World.cell?_of_block (a := ⟨b, o', none⟩) (hc1.block b (Nat.lt_of_lt_of_le hb hB1) (fun hf => by have := H2.out.lo (k := b) (by rw [H2.out.ld b hf]; decide); omega)))
  have hgB : B ≤ g := H2.out.lo (by rw [H2.out.lg]; decide)
  have C3 := Lib.hid (ref4.power_any g D Ak nk ck o.keep y1.drew (hr1.keep rfl) H2.out.good (by omega) (hkR3.more (Nat.le_trans hB1 hc1.size)) ho.keep (fun hn b o' e => by have := hkb hn b o' e; omega) (by omega))
  clear hr1
  go_upto_region 8 with (fail)
  go_still_tail 6, (by kernel_rfl)
  change wpList _ _ _ _ _ y1.drew
  clear hq1 ho1
  go_wp2_with fail
  refine C3.out.mono ?_
  clear C3
  rintro e y2 ⟨rfl, hr2, hG2⟩
  have hgp := H2.out.good.pow (by omega) o.keep
  obtain ⟨⟨lab', hb, hpf⟩, hbel⟩ := H2.out.turned P2.out hB1 hI1 hc1 hr2 (grown_trans (grown_drew y1 _) hG2) hgp
  have hst : (D.powS o.keep).stepped = D.stepped := rfl
  have hpw : (D.powS o.keep).powers = D.powers + 1 := rfl
  have hsz2 : B ≤ y2.heap.size := Nat.le_trans hB1 hbel.size
  have C4 := Lib.hid (open2_any y2 B q a g _ fd1 pw px lab' hb hsz2 (by omega) (by omega))
  have HN := Lib.hid (open_near _ hgp (by omega))
  have HBe := Lib.hid hbel
  clear hb hpf hbel hkR hkR2 hkR3 hI1 hc1 hr2 hG2
  go_wp2_with fail
  refine C4.out.mono ?_
  clear C4
  rintro e y3 ⟨rfl, fd3, pw3, px3, lab3, hb3, hp3, hB3⟩
  go_wp2_with fail
  go_ret
  exact ⟨rfl, _, fd3, pw3, px3, lab3, hb3, hp3, (hB0.drew.trans HBe.out).trans hB3, by have := HN.out.2.1; omega, by have := HN.out.2.2; omega⟩
end
end Go.Proofs.Ytafdgibkhefplaa.law5
