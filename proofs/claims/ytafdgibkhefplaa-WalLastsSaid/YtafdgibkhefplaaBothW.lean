/- A program's log and disk beside the document's: what their worlds keep; and the statements' own opening of both. Conditions: those that each theorem names. -/
import Derived.Test.YtafdgibkhefplaaWalI
import Derived.Test.YtafdgibkhefplaaRef5d
import Derived.Test.YtafdgibkhefplaaTexts
namespace Go.Proofs.Ytafdgibkhefplaa.law5
open Go.RowKit Go.Proofs.Ytafdgibkhefplaa.kit Go.Proofs.Ytafdgibkhefplaa.nums Go.Proofs.Ytafdgibkhefplaa.ds Go.Proofs.Ytafdgibkhefplaa.ws Go.Proofs.Ytafdgibkhefplaa.ref4 Go.Proofs.Ytafdgibkhefplaa.ref5
set_option linter.unusedVariables false

/-- Both disks, in the two's block q; each block bears a number: whose it is (1 the program's disk, 2 the document's, 3 the program's log, 4 the document's, 5 the two's). -/
structure BothD (w : World) (B q a g : Nat) (D : DS) (fd : Nat → Prop) (pw px : Value) (lab : Nat → Nat) : Prop where
  qb : Blk 33 w q [.pointer (some ⟨a, 0, none⟩), .pointer (some ⟨g, 0, none⟩), pw, px]
  lq : lab q = 5
  d : disk.IsDisk w a D fd
  ld : ∀ k, fd k → lab k = 1
  r : IsRef w g D
  lg : lab g = 2
  lB : ∀ k, k < B → lab k = 0
  good : D.Good
/-- Both logs, or none. -/
def Part (w : World) (a g : Nat) (D : DS) (pw px : Value) (lab : Nat → Nat) : Prop :=
  (pw = .pointer none ∧ px = .pointer none) ∨
  ∃ (p x base : Nat) (X : WS) (fw : Nat → Prop) (v : Value), pw = .pointer (some ⟨p, 0, none⟩) ∧ px = .pointer (some ⟨x, 0, none⟩) ∧ wal.IsWal w p a X fw ∧ (∀ k, fw k → lab k = 3) ∧ RefW w x g base X D v ∧ base ≤ w.heap.size ∧ lab x = 4 ∧ (∀ k, v.ownBlock = some k → lab k = 4) ∧ Fit X D ∧ X.file ≠ -1
/-- New blocks get numbers. -/
theorem relab (lab : Nat → Nat) (n : Nat) (f1 f3 f4 : Nat → Prop) (h13 : ∀ k, n ≤ k → f1 k → ¬ f3 k) (h14 : ∀ k, n ≤ k → f1 k → ¬ f4 k) (h34 : ∀ k, n ≤ k → f3 k → ¬ f4 k) :
    ∃ lab' : Nat → Nat, (∀ k, k < n → lab' k = lab k) ∧ (∀ k, n ≤ k → f1 k → lab' k = 1) ∧ (∀ k, n ≤ k → f3 k → lab' k = 3) ∧ (∀ k, n ≤ k → f4 k → lab' k = 4) := by
  classical
  refine ⟨fun k => if k < n then lab k else if f1 k then 1 else if f3 k then 3 else 4, fun k hk => if_pos hk, fun k hk h => ?_, fun k hk h => ?_, fun k hk h => ?_⟩
  · dsimp only; rw [if_neg (by omega), if_pos h]
  · dsimp only; rw [if_neg (by omega), if_neg (fun h1 => h13 k hk h1 h), if_pos h]
  · dsimp only; rw [if_neg (by omega), if_neg (fun h1 => h14 k hk h1 h), if_neg (fun h3 => h34 k hk h3 h)]
/-- Where nothing of theirs turned. -/
theorem BothD.same {w w' : World} {B q a g : Nat} {D : DS} {fd : Nat → Prop} {pw px : Value} {lab : Nat → Nat} (h : BothD w B q a g D fd pw px lab) (hb : ∀ k, lab k ≠ 0 → k < w.heap.size → w'.heap[k]? = w.heap[k]?) : BothD w' B q a g D fd pw px lab := by
  have hq := hb q (by rw [h.lq]; decide) h.qb.lt
  have hg := hb g (by rw [h.lg]; decide) h.r.lt
  exact ⟨hq.trans h.qb, h.lq, h.d.keep (fun k hk => hb k (by rw [h.ld k hk]; decide) (h.d.lt k hk)), h.ld, h.r.keep hg, h.lg, h.lB, h.good⟩
theorem Part.same {w w' : World} {a g : Nat} {D : DS} {pw px : Value} {lab : Nat → Nat} (h : Part w a g D pw px lab) (hs : w.heap.size ≤ w'.heap.size) (hg : IsRef w' g D) (hb : ∀ k, lab k = 3 ∨ lab k = 4 → k < w.heap.size → w'.heap[k]? = w.heap[k]?) : Part w' a g D pw px lab := by
  rcases h with h | ⟨p, x, base, X, fw, v, h1, h2, h3, h4, h5, h6, h7, h8, h9, h10⟩
  · exact .inl h
  · refine .inr ⟨p, x, base, X, fw, v, h1, h2, h3.keep (fun k hk => hb k (.inl (h4 k hk)) (h3.lt k hk)), h4, ⟨(hb x (.inr h7) h5.blk.lt).trans h5.blk, ?_, hg⟩, by omega, h7, h8, h9, h10⟩
    refine ⟨h5.own.1, ?_⟩
    rcases h5.own.2 with hn | ⟨k, cap, cur, hv, hk, hc, r⟩
    · exact .inl hn
    · exact .inr ⟨k, cap, cur, hv, hk, by rw [hb k (.inr (h8 k (by rw [hv]; rfl))) (Array.getElem?_eq_some_iff.1 hc).1]; exact hc, r⟩
theorem BothD.lo {w : World} {B q a g : Nat} {D : DS} {fd : Nat → Prop} {pw px : Value} {lab : Nat → Nat} (h : BothD w B q a g D fd pw px lab) {k : Nat} (hk : lab k ≠ 0) : B ≤ k := by
  rcases Nat.lt_or_ge k B with h1 | h1
  · exact absurd (h.lB k h1) hk
  · exact h1
theorem grown_q (w : World) (q : Nat) (u v : Value) : w.grownBy ((w.setCell ⟨q, 2, none⟩ u).setCell ⟨q, 3, none⟩ v) (some q) := grown_trans (grown_set _ _ _ _) (grown_set _ _ _ _)
/-- From w by way of w1, where the program has its disk anew, and w2, where the document has, to w4, where the two's block and nothing else turned. -/
theorem BothD.opened {w w1 w2 w4 : World} {B q a g : Nat} {D D' : DS} {fd fd1 : Nat → Prop} {pw px pw' px' : Value} {lab lab' : Nat → Nat} (h : BothD w B q a g D fd pw px lab) (hB : B ≤ w.heap.size) (hd1 : disk.IsDisk w1 a D' fd1)
    (hos : w1.os = w.os ∧ w1.tape = w.tape ∧ w1.output = w.output) (hsz : w.heap.size ≤ w1.heap.size) (hbl : ∀ k, k < w.heap.size → ¬ fd k → w1.heap[k]? = w.heap[k]?) (hnew : ∀ k, fd1 k → fd k ∨ w.heap.size ≤ k)
    (hr2 : IsRef w2 g D') (hG2 : w1.grownBy w2 (some g)) (hq4 : Blk 33 w4 q [.pointer (some ⟨a, 0, none⟩), .pointer (some ⟨g, 0, none⟩), pw', px']) (hG4 : w2.grownBy w4 (some q)) (hgood : D'.Good)
    (hl : ∀ k, k < w.heap.size → lab' k = lab k) (hl1 : ∀ k, w.heap.size ≤ k → fd1 k → lab' k = 1) : BothD w4 B q a g D' fd1 pw' px' lab' ∧ Below B w w4 := by
  have hlq := h.lq
  have hlg := h.lg
  have hqg : q ≠ g := fun e => by rw [e] at hlq; omega
  have hld : ∀ k, fd1 k → lab' k = 1 := fun k hk => by
    rcases hnew k hk with h1 | h1
    · have := h.ld k h1
      have hlt := h.d.lt k h1
      rw [hl k hlt]; exact this
    · exact hl1 k h1 hk
  have hq' : lab' q = 5 := by rw [hl q h.qb.lt]; exact hlq
  have hg' : lab' g = 2 := by rw [hl g h.r.lt]; exact hlg
  have hgq : g < w2.heap.size := hr2.lt
  refine ⟨⟨hq4, hq', hd1.keep (fun k hk => ?_), hld, hr2.keep (hG4.block g hgq (by intro e; exact hqg (Option.some.inj e).symm)), hg', fun k hk => by rw [hl k (by omega)]; exact h.lB k hk, hgood⟩, ?_⟩
  · have h1 := hld k hk
    have h2 := hd1.lt k hk
    rw [hG4.block k (Nat.lt_of_lt_of_le h2 hG2.size) (by intro e; obtain rfl : k = q := Option.some.inj e; omega)]
    exact hG2.block k h2 (by intro e; obtain rfl : k = g := Option.some.inj e; omega)
  · have hqB : B ≤ q := h.lo (by rw [hlq]; decide)
    have hgB : B ≤ g := h.lo (by rw [hlg]; decide)
    refine ⟨hG4.os.trans (hG2.os.trans hos.1), hG4.tape.trans (hG2.tape.trans hos.2.1), hG4.output.trans (hG2.output.trans hos.2.2), Nat.le_trans hsz (Nat.le_trans hG2.size hG4.size), fun k hk => ?_⟩
    rw [hG4.block k (by have := hG2.size; omega) (by intro e; have := Option.some.inj e; omega), hG2.block k (by omega) (by intro e; have := Option.some.inj e; omega)]
    exact hbl k (by omega) (fun hf => by have := h.lo (k := k) (by rw [h.ld k hf]; decide); omega)
set_option maxRecDepth 100000 in
set_option maxHeartbeats 2000000 in
theorem open2_any (w : World) (B q a g : Nat) (D : DS) (fd : Nat → Prop) (pw px : Value) (lab : Nat → Nat) (h : BothD w B q a g D fd pw px lab) (hB : B ≤ w.heap.size) (hs : D.stepped ≤ 990000) (hp : D.powers ≤ 990000) :
    Calls Try.prog 13 #[.pointer (some ⟨q, 0, none⟩)] w fun e w' => e = .returned (.bool true) ∧ ∃ fd' pw' px' lab', BothD w' B q a g (openO D).D fd' pw' px' lab' ∧ Part w' a g (openO D).D pw' px' lab' ∧ Below B w w' := by
  have q0 : w.cell? ⟨q, 0, none⟩ = some (.pointer (some ⟨a, 0, none⟩)) := h.qb.cell 0
  have C1 := Lib.hid (wal.open_any a D fd w h.d h.good (by omega) (by omega))
  have H := Lib.hid h
  have HN := Lib.hid (open_near D h.good (by omega))
  have HF := Lib.hid (Fit.open_ h.good)
  have HFile := Lib.hid (open_file (D := D))
  clear h
  go_enter Try.func13, Try.ntmps13
  go_wp2_with fail
  refine C1.out.mono ?_
  clear C1
  rintro e w1 (⟨he, p, fw1, fd1, A, n, c, rfl, hL, hfw, hC1, hSafe⟩ | ⟨he, fd1, A, c, rfl, hd1, hC1⟩)
  · have hq1 : Blk 33 w1 q [.pointer (some ⟨a, 0, none⟩), .pointer (some ⟨g, 0, none⟩), pw, px] := (hC1.block q H.out.qb.lt (fun hf => by have := H.out.ld q hf; have := H.out.lq; omega)).trans H.out.qb
    have hr1 : IsRef w1 g D := H.out.r.keep (hC1.block g H.out.r.lt (fun hf => by have := H.out.ld g hf; have := H.out.lg; omega))
    have q1 : w1.cell? ⟨q, 1, none⟩ = some (.pointer (some ⟨g, 0, none⟩)) := hq1.cell 1
    have C2 := Lib.hid (ref5.open_any g D w1 hr1 H.out.good (by omega))
    clear q0
    go_wp2_with fail
    refine C2.out.mono ?_
    clear C2
    rintro e w2 ⟨⟨_, x, v, rfl, hx, hW⟩ | ⟨he2, _⟩, hG2⟩
    · obtain ⟨Av, cv, rfl, hcv, hcvm, hVv⟩ := hW.own.slice
      rw [List.length_map] at *
      have hqg : q ≠ g := fun e => by
        have h5 := H.out.lq
        have h2 := H.out.lg
        rw [← e] at h2
        omega
      have hq2 : Blk 33 w2 q [.pointer (some ⟨a, 0, none⟩), .pointer (some ⟨g, 0, none⟩), pw, px] := (hG2.block q hq1.lt (by intro e; exact hqg (Option.some.inj e))).trans hq1
      have hq3 : Blk 33 ((w2.setCell ⟨q, 2, none⟩ (.pointer (some ⟨p, 0, none⟩))).setCell ⟨q, 3, none⟩ (.pointer (some ⟨x, 0, none⟩))) q [.pointer (some ⟨a, 0, none⟩), .pointer (some ⟨g, 0, none⟩), .pointer (some ⟨p, 0, none⟩), .pointer (some ⟨x, 0, none⟩)] := (hq2.set_ 2 _).set_ 3 _
      have hG3 := grown_q w2 q (.pointer (some ⟨p, 0, none⟩)) (.pointer (some ⟨x, 0, none⟩))
      have hqlt : q < w1.heap.size := hq1.lt
      have hxq : q ≠ x := by omega
      have hW3 : RefW ((w2.setCell ⟨q, 2, none⟩ (.pointer (some ⟨p, 0, none⟩))).setCell ⟨q, 3, none⟩ (.pointer (some ⟨x, 0, none⟩))) x g w1.heap.size (openO D).X (openO D).D (.slice Av (openO D).X.recs.length cv) :=
        ⟨(hG3.block x hW.blk.lt (by intro e; exact hxq (Option.some.inj e).symm)).trans hW.blk, hW.own.grown hG3 (fun k hk e => by
          have := (hW.own.lt k hk).1
          have := Option.some.inj e
          omega), hW.ref.keep (hG3.block g hW.ref.lt (by intro e; exact hqg (Option.some.inj e).symm))⟩
      have c2 : w2.cell? ⟨q, 2, none⟩ = some pw := hq2.cell 2
      have c3 : w2.cell? ⟨q, 3, none⟩ = some px := hq2.cell 3
      have cf := fun i => hq2.frozen i
      have x3 := hW3.c3
      obtain ⟨lab', l0, l1, l3, l4⟩ := relab lab w.heap.size fd1 fw1 (fun k => k = x ∨ (Value.slice Av (openO D).X.recs.length cv).ownBlock = some k) (fun k _ h1 h3 => hL.apart k h3 h1) (fun k _ h1 h4 => by
        have := hL.disk.lt k h1
        rcases h4 with h4 | h4
        · omega
        · have := (hW.own.lt k h4).1; omega) (fun k _ h1 h4 => by
        have := hL.wal.lt k h1
        rcases h4 with h4 | h4
        · omega
        · have := (hW.own.lt k h4).1; omega)
      have hrec : RdS ((w2.setCell ⟨q, 2, none⟩ (.pointer (some ⟨p, 0, none⟩))).setCell ⟨q, 3, none⟩ (.pointer (some ⟨x, 0, none⟩))) ((w2.setCell ⟨q, 2, none⟩ (.pointer (some ⟨p, 0, none⟩))).setCell ⟨q, 3, none⟩ (.pointer (some ⟨x, 0, none⟩))).heap.size A n (openO D).X.recs := hSafe _ (Nat.le_trans hG2.size hG3.size) (fun k hk hn => by
        have hgl := H.out.r.lt
        have hql := H.out.qb.lt
        rw [hG3.block k (Nat.lt_of_lt_of_le hk hG2.size) (by intro e; have := Option.some.inj e; omega)]
        exact hG2.block k hk (by intro e; have := Option.some.inj e; omega))
      have hBD := H.out.opened (w1 := w1) (w2 := w2) (w4 := ((w2.setCell ⟨q, 2, none⟩ (.pointer (some ⟨p, 0, none⟩))).setCell ⟨q, 3, none⟩ (.pointer (some ⟨x, 0, none⟩)))) (fd1 := fd1) (lab' := lab') hB hL.disk ⟨hC1.os, hC1.tape, hC1.output⟩ hC1.size hC1.block (fun k hk => hC1.new k (.inr hk)) hW.ref hG2 hq3 hG3 HN.out.1 l0 l1
      have hP : Part ((w2.setCell ⟨q, 2, none⟩ (.pointer (some ⟨p, 0, none⟩))).setCell ⟨q, 3, none⟩ (.pointer (some ⟨x, 0, none⟩))) a g (openO D).D (.pointer (some ⟨p, 0, none⟩)) (.pointer (some ⟨x, 0, none⟩)) lab' := by
        refine .inr ⟨p, x, w1.heap.size, (openO D).X, fw1, _, rfl, rfl, hL.wal.keep (fun k hk => ?_), fun k hk => l3 k (hfw k hk) hk, hW3, Nat.le_trans hG2.size hG3.size, l4 x (by have := hC1.size; omega) (.inl rfl), fun k hk => l4 k (by have := (hW.own.lt k hk).1; have := hC1.size; omega) (.inr hk), HF.out, HFile.out he⟩
        have h1 := hL.wal.lt k hk
        have h2 := hfw k hk
        have hgl := H.out.r.lt
        have hql := H.out.qb.lt
        rw [hG3.block k (Nat.lt_of_lt_of_le h1 hG2.size) (by intro e; have := Option.some.inj e; omega)]
        exact hG2.block k h1 (by intro e; have := Option.some.inj e; omega)
      have hn := hrec.len
      have hVv3 : RdV ((w2.setCell ⟨q, 2, none⟩ (.pointer (some ⟨p, 0, none⟩))).setCell ⟨q, 3, none⟩ (.pointer (some ⟨x, 0, none⟩))) ((w2.setCell ⟨q, 2, none⟩ (.pointer (some ⟨p, 0, none⟩))).setCell ⟨q, 3, none⟩ (.pointer (some ⟨x, 0, none⟩))).heap.size Av n ((openO D).X.recs.map strV) := by
        obtain ⟨A', c', e, _, _, hR⟩ := hW3.own.slice
        rw [List.length_map, hn] at e hR
        simp only [Value.slice.injEq] at e
        obtain ⟨rfl, -, -⟩ := e
        exact hR
      have hmany := HF.out.many
      have CA := Lib.hid (alike_any A n c (openO D).X.recs Av cv _ _ _ hrec hVv3 (by omega))
      have HBD := Lib.hid (And.intro hBD.1 (And.intro hP hBD.2))
      rw [hn] at x3
      clear hBD hP hrec hVv3 hW3 hq3 hG3 hW hVv hSafe hL hfw hC1 hG2 hq1 hr1 q1 hq2 l0 l1 l3 l4 hmany hn hcv
      go_wp2_with fail
      refine CA.out.mono ?_
      rintro e w5 ⟨rfl, q5, rfl⟩
      go_wp2_with fail
      go_ret
      exact ⟨rfl, fd1, _, _, lab', HBD.out.1.same (fun _ _ _ => rfl), HBD.out.2.1.same (Nat.le_refl _) (HBD.out.1.same (w' := World.drewN _ q5) (fun _ _ _ => rfl)).r (fun _ _ _ => rfl), HBD.out.2.2.trans (drewN_below _ _ _)⟩
    · exact absurd he he2
  · have hq1 : Blk 33 w1 q [.pointer (some ⟨a, 0, none⟩), .pointer (some ⟨g, 0, none⟩), pw, px] := (hC1.block q H.out.qb.lt (fun hf => by have := H.out.ld q hf; have := H.out.lq; omega)).trans H.out.qb
    have hr1 : IsRef w1 g D := H.out.r.keep (hC1.block g H.out.r.lt (fun hf => by have := H.out.ld g hf; have := H.out.lg; omega))
    have q1 : w1.cell? ⟨q, 1, none⟩ = some (.pointer (some ⟨g, 0, none⟩)) := hq1.cell 1
    have C2 := Lib.hid (ref5.open_any g D w1 hr1 H.out.good (by omega))
    have hqg : q ≠ g := fun e => by
      have h5 := H.out.lq
      have h2 := H.out.lg
      rw [← e] at h2
      omega
    clear q0
    obtain ⟨ee, hee⟩ : ∃ ee, (openO D).e = ee := ⟨_, rfl⟩
    rw [hee]
    have hee0 : ¬ ee = 0 := by rw [← hee]; exact he
    go_wp2_with fail
    refine C2.out.mono ?_
    clear C2
    rintro e w2 ⟨⟨he2, _⟩ | ⟨_, rfl, hr2⟩, hG2⟩
    · exact absurd he2 he
    · rw [hee]
      have hq2 : Blk 33 w2 q [.pointer (some ⟨a, 0, none⟩), .pointer (some ⟨g, 0, none⟩), pw, px] := (hG2.block q hq1.lt (by intro e; exact hqg (Option.some.inj e))).trans hq1
      have hq3 : Blk 33 ((w2.setCell ⟨q, 2, none⟩ (.pointer none)).setCell ⟨q, 3, none⟩ (.pointer none)) q [.pointer (some ⟨a, 0, none⟩), .pointer (some ⟨g, 0, none⟩), .pointer none, .pointer none] := (hq2.set_ 2 _).set_ 3 _
      have hG3 := grown_q w2 q (.pointer none) (.pointer none)
      have c2 : w2.cell? ⟨q, 2, none⟩ = some pw := hq2.cell 2
      have c3 : w2.cell? ⟨q, 3, none⟩ = some px := hq2.cell 3
      have cf := fun i => hq2.frozen i
      obtain ⟨lab', l0, l1, _, _⟩ := relab lab w.heap.size fd1 (fun _ => False) (fun _ => False) (fun _ _ _ h => h) (fun _ _ _ h => h) (fun _ _ h => h.elim)
      have hBD := H.out.opened (w1 := w1) (w2 := w2) (w4 := ((w2.setCell ⟨q, 2, none⟩ (.pointer none)).setCell ⟨q, 3, none⟩ (.pointer none))) (fd1 := fd1) (lab' := lab') hB hd1 ⟨hC1.os, hC1.tape, hC1.output⟩ hC1.size hC1.block hC1.new hr2 hG2 hq3 hG3 HN.out.1 l0 l1
      have HBD := Lib.hid hBD
      clear hBD hq3 hG3 hd1 hC1 hG2 hq1 hr1 q1 hq2 l0 l1 hr2 he hee
      go_wp2_with fail
      go_ret
      exact ⟨rfl, fd1, _, _, lab', HBD.out.1, .inl ⟨rfl, rfl⟩, HBD.out.2⟩
end Go.Proofs.Ytafdgibkhefplaa.law5
