/- The statements' own do, of logs: syncing, appending. Conditions: those that each theorem names. -/
import Derived.Test.YtafdgibkhefplaaDoW
import Derived.Test.YtafdgibkhefplaaJoin1
namespace Go.Proofs.Ytafdgibkhefplaa.law5
open Go.RowKit Go.Proofs.Ytafdgibkhefplaa.kit Go.Proofs.Ytafdgibkhefplaa.nums Go.Proofs.Ytafdgibkhefplaa.ds Go.Proofs.Ytafdgibkhefplaa.ws Go.Proofs.Ytafdgibkhefplaa.ref4 Go.Proofs.Ytafdgibkhefplaa.ref5 Go.Proofs.Ytafdgibkhefplaa.law0 Go.Proofs.Ytafdgibkhefplaa.bytes
set_option linter.unusedVariables false

/-- The document's log stays where the program's log and disk alone turned. -/
theorem refw_kept {w1 w2 : World} {B q a g x base : Nat} {X : WS} {D : DS} {fd fw : Nat → Prop} {pw px v : Value} {lab : Nat → Nat} {f' : Nat → Prop} (h : BothD w1 B q a g D fd pw px lab) (hfw : ∀ k, fw k → lab k = 3) (hW : RefW w1 x g base X D v) (hx : lab x = 4) (hv : ∀ k, v.ownBlock = some k → lab k = 4) (hC : disk.Chg (wal.Or2 fw fd) f' w1 w2) : RefW w2 x g base X D v := by
  have hk : ∀ k, lab k ≠ 1 → lab k ≠ 3 → k < w1.heap.size → w2.heap[k]? = w1.heap[k]? := fun k h1 h3 hlt => hC.block k hlt (fun hf => hf.elim (fun hf => h3 (hfw k hf)) (fun hf => h1 (h.ld k hf)))
  refine ⟨(hk x (by rw [hx]; decide) (by rw [hx]; decide) hW.blk.lt).trans hW.blk, ⟨hW.own.1, ?_⟩, hW.ref.keep (hk g (by rw [h.lg]; decide) (by rw [h.lg]; decide) hW.ref.lt)⟩
  rcases hW.own.2 with hn | ⟨k, cap, cur, he, hb, hc, r⟩
  · exact .inl hn
  · have h4 := hv k (by rw [he]; rfl)
    exact .inr ⟨k, cap, cur, he, hb, by rw [hk k (by rw [h4]; decide) (by rw [h4]; decide) (Array.getElem?_eq_some_iff.1 hc).1]; exact hc, r⟩
/-- The program's log turned, then the document's did. -/
theorem BothD.logs {w1 w2 w2' w3 : World} {B q a g p x base : Nat} {X X' : WS} {D D' : DS} {fd fw fd' fw' : Nat → Prop} {v v' : Value} {lab : Nat → Nat} (h : BothD w1 B q a g D fd (.pointer (some ⟨p, 0, none⟩)) (.pointer (some ⟨x, 0, none⟩)) lab) (hB : B ≤ w1.heap.size) (hfw : ∀ k, fw k → lab k = 3) (hW : RefW w1 x g base X D v) (hbs : base ≤ w1.heap.size) (hx : lab x = 4) (hv : ∀ k, v.ownBlock = some k → lab k = 4)
    (hfl : ∀ k, fw k → k < w1.heap.size) (hL : wal.Log w2 p a X' D' fw' fd') (hC : disk.Chg (wal.Or2 fw fd) (wal.Or2 fw' fd') w1 w2) (hn1 : ∀ k, fw' k → fw k ∨ w1.heap.size ≤ k) (hn2 : ∀ k, fd' k → fd k ∨ w1.heap.size ≤ k)
    (hsz : w2.heap.size ≤ w2'.heap.size) (hblk : ∀ k, k < w2.heap.size → w2'.heap[k]? = w2.heap[k]?) (hos : w2'.os = w2.os ∧ w2'.tape = w2.tape ∧ w2'.output = w2.output) (hW3 : RefW w3 x g base X' D' v') (hC3 : ref5.Chg (fpW x g v) (fpW x g v') w2' w3) (hF : Fit X' D') (hfile : X'.file ≠ -1) (hgood : D'.Good) :
    (∃ lab', (∀ k, k < w1.heap.size → lab' k = lab k) ∧ BothD w3 B q a g D' fd' (.pointer (some ⟨p, 0, none⟩)) (.pointer (some ⟨x, 0, none⟩)) lab' ∧ Part w3 a g D' (.pointer (some ⟨p, 0, none⟩)) (.pointer (some ⟨x, 0, none⟩)) lab') ∧ Below B w1 w3 := by
  have hlq := h.lq
  have hlg := h.lg
  have hxl := hW.blk.lt
  have hgl := hW.ref.lt
  have hvl : ∀ k, v.ownBlock = some k → k < w1.heap.size := fun k hk => (hW.own.lt k hk).2
  have hvn : ∀ k, w1.heap.size ≤ k → v'.ownBlock = some k → w2'.heap.size ≤ k := fun k hk hv' => by
    rcases hC3.new k (.inr (.inr hv')) with h1 | h1
    · rcases h1 with h1 | h1 | h1
      · omega
      · omega
      · have := hvl k h1; omega
    · exact h1
  obtain ⟨lab', l0, l1, l3, l4⟩ := relab lab w1.heap.size fd' fw' (fun k => v'.ownBlock = some k) (fun k _ h1 h3 => hL.apart k h3 h1) (fun k hk h1 h4 => by have := hL.disk.lt k h1; have := hvn k hk h4; omega) (fun k hk h1 h4 => by have := hL.wal.lt k h1; have := hvn k hk h4; omega)
  -- what is neither's stays
  have hsame : ∀ k, lab k ≠ 1 → lab k ≠ 2 → lab k ≠ 3 → lab k ≠ 4 → k < w1.heap.size → w3.heap[k]? = w1.heap[k]? := fun k h1 h2 h3 h4 hk => by
    rw [hC3.block k (Nat.lt_of_lt_of_le hk (Nat.le_trans hC.size hsz)) (fun hf => by
      rcases hf with hf | hf | hf
      · exact h4 (by rw [hf]; exact hx)
      · exact h2 (by rw [hf]; exact hlg)
      · exact h4 (hv k hf)), hblk k (Nat.lt_of_lt_of_le hk hC.size)]
    exact hC.block k hk (fun hf => hf.elim (fun hf => h3 (hfw k hf)) (fun hf => h1 (h.ld k hf)))
  have hfar : ∀ k, (lab' k = 1 ∨ lab' k = 3) → k < w2.heap.size → w3.heap[k]? = w2.heap[k]? := fun k hl hk => by
    rw [hC3.block k (Nat.lt_of_lt_of_le hk hsz) (fun hf => by
      rcases hf with hf | hf | hf
      · subst hf; rw [l0 k hxl] at hl; omega
      · subst hf; rw [l0 k hgl] at hl; omega
      · rw [l0 k (hvl k hf)] at hl; have := hv k hf; omega)]
    exact hblk k hk
  have hld : ∀ k, fd' k → lab' k = 1 := fun k hk => by
    rcases hn2 k hk with h1 | h1
    · rw [l0 k (h.d.lt k h1)]; exact h.ld k h1
    · exact l1 k h1 hk
  have hlw : ∀ k, fw' k → lab' k = 3 := fun k hk => by
    rcases hn1 k hk with h1 | h1
    · rw [l0 k (hfl k h1)]; exact hfw k h1
    · exact l3 k h1 hk
  have hlv : ∀ k, v'.ownBlock = some k → lab' k = 4 := fun k hk => by
    rcases hC3.new k (.inr (.inr hk)) with h1 | h1
    · rcases h1 with h1 | h1 | h1
      · subst h1; rw [l0 k hxl]; exact hx
      · exact absurd hk (by subst h1; exact hW3.vg)
      · rw [l0 k (hvl k h1)]; exact hv k h1
    · exact l4 k (by have := hC.size; omega) hk
  refine ⟨⟨lab', l0, ⟨(hsame q (by rw [hlq]; decide) (by rw [hlq]; decide) (by rw [hlq]; decide) (by rw [hlq]; decide) h.qb.lt).trans h.qb, by rw [l0 q h.qb.lt]; exact hlq, hL.disk.keep (fun k hk => hfar k (.inl (hld k hk)) (hL.disk.lt k hk)), hld, hW3.ref, by rw [l0 g h.r.lt]; exact hlg, fun k hk => by rw [l0 k (by omega)]; exact h.lB k hk, hgood⟩, .inr ⟨p, x, base, X', fw', v', rfl, rfl, hL.wal.keep (fun k hk => hfar k (.inr (hlw k hk)) (hL.wal.lt k hk)), hlw, hW3, by have := hC.size; have := hC3.size; omega, by rw [l0 x hxl]; exact hx, hlv, hF, hfile⟩⟩, ?_⟩
  refine ⟨hC3.os.trans (hos.1.trans hC.os), hC3.tape.trans (hos.2.1.trans hC.tape), hC3.output.trans (hos.2.2.trans hC.output), Nat.le_trans hC.size (Nat.le_trans hsz hC3.size), fun k hk => ?_⟩
  have h0 := h.lB k hk
  exact hsame k (by omega) (by omega) (by omega) (by omega) (by omega)
/-- A number that nobody has may be 0. -/
theorem unlab {w : World} {B q a g n : Nat} {D : DS} {fd : Nat → Prop} {pw px : Value} {lab : Nat → Nat} (h : BothD w B q a g D fd pw px lab) (hP : Part w a g D pw px lab) (hn : w.heap.size ≤ n) : BothD w B q a g D fd pw px (fun k => if k = n then 0 else lab k) ∧ Part w a g D pw px (fun k => if k = n then 0 else lab k) := by
  have hk : ∀ k, k < w.heap.size → (fun k => if k = n then 0 else lab k) k = lab k := fun k hk => if_neg (by omega)
  refine ⟨⟨h.qb, (hk q h.qb.lt).trans h.lq, h.d, fun k hf => (hk k (h.d.lt k hf)).trans (h.ld k hf), h.r, (hk g h.r.lt).trans h.lg, fun k hB => ?_, h.good⟩, ?_⟩
  · show (if k = n then 0 else lab k) = 0
    split
    · rfl
    · exact h.lB k hB
  · rcases hP with hP | ⟨p, x, base, X, fw, v, h1, h2, h3, h4, h5, h6, h7, h8, h9, h10⟩
    · exact .inl hP
    · exact .inr ⟨p, x, base, X, fw, v, h1, h2, h3, fun k hf => (hk k (h3.lt k hf)).trans (h4 k hf), h5, h6, (hk x h5.blk.lt).trans h7, fun k hf => (hk k (h5.own.lt k hf).2).trans (h8 k hf), h9, h10⟩
section
variable (w : World) (B q a g : Nat) (D : DS) (fd : Nat → Prop) (pw px : Value) (labo : Nat → Nat) (o : OpW) (v3 v4 v5 : Value) (h : BothD w B q a g D fd pw px labo) (hP : Part w a g D pw px labo) (hB : B ≤ w.heap.size) (hs : D.stepped ≤ 980000) (hp : D.powers ≤ 980000) (ho : OpWOk o) (hv : OpWV w B o v3 v4 v5)
include h hP hB hs hp ho hv
set_option maxRecDepth 100000 in
set_option maxHeartbeats 2000000 in
theorem do_1 (hkind : placeF o.kind 7 = 1) :
    Calls Try.prog 14 #[.pointer (some ⟨q, 0, none⟩), .agg #[.int .i64 o.kind, .int .i64 o.n, .bool o.made, v3, v4, v5]] w (RetDoW w B q a g D) := by
  go_enter Try.func14, Try.ntmps14
  have CP := Lib.hid (place_any o.kind 7 (w.alloc (.cells #[.int .i64 o.kind, .int .i64 o.n, .bool o.made, v3, v4, v5] 39)) ho.kind.1 ho.kind.2 (by omega))
  have hal : Below w.heap.size w (w.alloc (.cells #[.int .i64 o.kind, .int .i64 o.n, .bool o.made, v3, v4, v5] 39)) := (Below.refl _ _).alloc (Nat.le_refl _) _
  obtain ⟨hu, hup⟩ := unlab h hP (Nat.le_refl w.heap.size)
  have hb0 := hu.below hal
  have hp0 := hup.below hu hal
  have hgo0 : (fun k => if k = w.heap.size then 0 else labo k) w.heap.size = 0 := if_pos rfl
  have hblk : Blk 39 (w.alloc (.cells #[.int .i64 o.kind, .int .i64 o.n, .bool o.made, v3, v4, v5] 39)) w.heap.size [.int .i64 o.kind, .int .i64 o.n, .bool o.made, v3, v4, v5] := heap_alloc_new w _
  have hB0 : Below B w (w.alloc (.cells #[.int .i64 o.kind, .int .i64 o.n, .bool o.made, v3, v4, v5] 39)) := hal.mono hB
  have hv1 := hv.below hB0
  have hof : ¬ fd w.heap.size := fun hf => by have := h.d.lt _ hf; omega
  have hog : w.heap.size ≠ g := by have := h.r.lt; omega
  have hoB : B ≤ w.heap.size := hB
  rw [hkind] at CP
  clear h hv hP hal hu hup
  generalize (fun k => if k = w.heap.size then 0 else labo k) = lab at *
  go_upto_region 1 with (fail)
  generalize (w.alloc (.cells #[.int .i64 o.kind, .int .i64 o.n, .bool o.made, v3, v4, v5] 39)) = w1 at *
  generalize w.heap.size = go at *
  have hgo1 : go < w1.heap.size := hblk.lt
  have hB1 : B ≤ w1.heap.size := by omega
  have c0 := hblk.cell 0
  have c1 := hblk.cell 1
  have c2 := hblk.cell 2
  have c3 := hblk.cell 3
  have c4 := hblk.cell 4
  have c5 := hblk.cell 5
  simp only [List.getElem?_cons_zero, List.getElem?_cons_succ] at c0 c1 c2 c3 c4 c5
  have q0 : w1.cell? ⟨q, 0, none⟩ = some (.pointer (some ⟨a, 0, none⟩)) := hb0.qb.cell 0
  have q1 : w1.cell? ⟨q, 1, none⟩ = some (.pointer (some ⟨g, 0, none⟩)) := hb0.qb.cell 1
  have HB1 := Lib.hid hb0
  have HP1 := Lib.hid hp0
  have HBk := Lib.hid hblk
  clear hb0 hp0 hblk
  go_wp2_with fail
  refine CP.out.mono ?_
  clear CP
  rintro e w2 ⟨rfl, rfl⟩
  have q3 : w1.cell? ⟨q, 3, none⟩ = some px := HB1.out.qb.cell 3
  have q2 : w1.cell? ⟨q, 2, none⟩ = some pw := HB1.out.qb.cell 2
  have CP2 := Lib.hid (place_any o.kind 7 w1 ho.kind.1 ho.kind.2 (by omega))
  rw [hkind] at CP2
  rcases HP1.out with ⟨rfl, rfl⟩ | ⟨p, x, base, X, fw, v, rfl, rfl, hw, hfw, hW, hbs, hx4, hv4, hF, hfile⟩
  · clear c0 c1 c2 c3 c4 c5 q0 q1 q2 CP2
    go_wp2_with fail
    go_ret
    exact ⟨rfl, D, fd, _, _, _, HB1.out, HP1.out, hB0, Nat.le_add_right _ _, Nat.le_add_right _ _⟩
  · have hL : wal.Log w1 p a X D fw fd := ⟨hw, HB1.out.d, fun k h3 h1 => by have := hfw k h3; have := HB1.out.ld k h1; omega⟩
    have H1 := Lib.hid (HB1.out.same (w' := w1.drew) (fun _ _ _ => rfl))
    have HFW := Lib.hid hfw
    have HW1 := Lib.hid (show RefW w1.drew x g base X D v from hW.drewN 1)
    have HX4 := Lib.hid hx4
    have HV4 := Lib.hid hv4
    have HFL := Lib.hid (wal.IsWal.lt hw)
    have HBS := Lib.hid hbs
    have HFit := Lib.hid hF
    have HFile := Lib.hid hfile
    have hQ : ∀ W : World, (∀ k, lab k ≠ 1 → lab k ≠ 2 → lab k ≠ 3 → lab k ≠ 4 → k < w1.heap.size → W.heap[k]? = w1.heap[k]?) → W.cell? ⟨q, 2, none⟩ = some (.pointer (some ⟨p, 0, none⟩)) ∧ W.cell? ⟨q, 3, none⟩ = some (.pointer (some ⟨x, 0, none⟩)) := fun W hW => by
      have h5 := HB1.out.lq
      have hk := hW q (by omega) (by omega) (by omega) (by omega) HB1.out.qb.lt
      rw [World.cell?_of_block (a := ⟨q, 2, none⟩) hk, World.cell?_of_block (a := ⟨q, 3, none⟩) hk]
      exact ⟨HB1.out.qb.cell 2, HB1.out.qb.cell 3⟩
    have HQ := Lib.hid (show ∀ (y1 : World) {f' : Nat → Prop}, disk.Chg (wal.Or2 fw fd) f' w1.drew y1 → y1.cell? ⟨q, 2, none⟩ = some (.pointer (some ⟨p, 0, none⟩)) ∧ y1.cell? ⟨q, 3, none⟩ = some (.pointer (some ⟨x, 0, none⟩)) from fun y1 f' hC => hQ y1 (fun k h1 h2 h3 h4 hk => hC.block k hk (fun hf => hf.elim (fun hf => h3 (hfw k hf)) (fun hf => h1 (HB1.out.ld k hf)))))
    have HQ2 := Lib.hid (show ∀ (y1 y1' y2 : World) {f' : Nat → Prop} {v' : Value}, disk.Chg (wal.Or2 fw fd) f' w1.drew y1 → y1.heap.size ≤ y1'.heap.size → (∀ k, k < y1.heap.size → y1'.heap[k]? = y1.heap[k]?) → ref5.Chg (fpW x g v) (fpW x g v') y1' y2 → y2.cell? ⟨q, 2, none⟩ = some (.pointer (some ⟨p, 0, none⟩)) ∧ y2.cell? ⟨q, 3, none⟩ = some (.pointer (some ⟨x, 0, none⟩)) from fun y1 y1' y2 f' v' hC hsz hbl hC2 => hQ y2 (fun k h1 h2 h3 h4 hk => by
      have hk1 : k < y1.heap.size := Nat.lt_of_lt_of_le hk hC.size
      rw [hC2.block k (Nat.lt_of_lt_of_le hk1 hsz) (fun hf => by
        rcases hf with hf | hf | hf
        · exact h4 (by rw [hf]; exact hx4)
        · exact h2 (by rw [hf]; exact HB1.out.lg)
        · exact h4 (hv4 k hf)), hbl k hk1]
      exact hC.block k hk (fun hf => hf.elim (fun hf => h3 (hfw k hf)) (fun hf => h1 (HB1.out.ld k hf)))))
    have C1 := Lib.hid (wal.sync_any p a X D fw fd w1.drew ⟨hw.keep (fun _ _ => rfl), HB1.out.d.keep (fun _ _ => rfl), hL.apart⟩ HB1.out.good (by omega) (by omega) hF hfile)
    have C2 := Lib.hid (fun (W : World) (hW : RefW W x g base X D v) => ref5.sync_any x g base X D v W hW HB1.out.good (by omega))
    have HN := Lib.hid (sync_near X D HB1.out.good (by omega))
    have hs0 : w1.drew.cell? ⟨q, 2, none⟩ = some (.pointer (some ⟨p, 0, none⟩)) ∧ w1.drew.cell? ⟨q, 3, none⟩ = some (.pointer (some ⟨x, 0, none⟩)) := ⟨q2, q3⟩
    clear c1 c2 c3 c4 c5 q0 q1 hQ hw hfw hW hbs hx4 hv4 hF hfile hL
    go_wp2_with fail
    refine CP2.out.mono ?_
    clear CP2
    rintro e w2 ⟨rfl, rfl⟩
    clear q2 q3
    go_upto_region 26 with (fail)
    refine wp_region_held_drew (S := fun wq => wq.cell? ⟨q, 2, none⟩ = some (.pointer (some ⟨p, 0, none⟩)) ∧ wq.cell? ⟨q, 3, none⟩ = some (.pointer (some ⟨x, 0, none⟩))) (by kernel_rfl) ?s_0 (fun hHeld => ?_)
    case s_0 => exact hs0
    clear hs0
    refine wpAnyH_take (i := 0) (oi := { dst := some 127, op := Go.Op.move (Go.Operand.tmp 0), type := 25, pos := "law.go:114", after := #[], guard := none }) (v := ?v_0_1) rfl (by kernel_rfl) (by kernel_rfl) (by kernel_rfl) (fun _ _ _ h => h) (Or.inl ⟨by rfl, ?y_0_1⟩) (by assumption) ?_
    case y_0_1 => (intro wq hSw; (try dsimp only at hSw); go_simp; first | done | with_reducible rfl)
    try simp only [Act.put, List.setIfInBounds_toArray, List.set_cons_zero, List.set_cons_succ]
    refine wpAnyH_take (i := 1) (oi := { dst := some 128, op := Go.Op.nilCheck (Go.Operand.tmp 127), type := 0, pos := "law.go:114", after := #[{ on := 0, ground := Go.Ground.data }], guard := none }) (v := ?v_1_1) rfl (by kernel_rfl) (by kernel_rfl) (by kernel_rfl) (fun _ _ _ h => h) (Or.inl ⟨by rfl, ?y_1_1⟩) (by assumption) ?_
    case y_1_1 => (intro wq hSw; (try dsimp only at hSw); go_simp; first | done | with_reducible rfl)
    try simp only [Act.put, List.setIfInBounds_toArray, List.set_cons_zero, List.set_cons_succ]
    refine wpAnyH_take (i := 2) (oi := { dst := some 129, op := Go.Op.fieldAddr 33 (Go.Operand.tmp 128) 2, type := 0, pos := "law.go:114", after := #[{ on := 1, ground := Go.Ground.data }], guard := none }) (v := ?v_2_1) rfl (by kernel_rfl) (by kernel_rfl) (by kernel_rfl) (fun _ _ _ h => h) (Or.inl ⟨by rfl, ?y_2_1⟩) (by assumption) ?_
    case y_2_1 => (intro wq hSw; (try dsimp only at hSw); go_simp; first | done | with_reducible rfl)
    try simp only [Act.put, List.setIfInBounds_toArray, List.set_cons_zero, List.set_cons_succ]
    refine wpAnyH_take (i := 3) (oi := { dst := some 130, op := Go.Op.load 30 (Go.Operand.tmp 129), type := 30, pos := "law.go:114", after := #[{ on := 2, ground := Go.Ground.data }], guard := none }) (v := ?v_3_1) rfl (by kernel_rfl) (by kernel_rfl) (by kernel_rfl) (fun _ _ _ h => h) (Or.inl ⟨by rfl, ?y_3_1⟩) (by assumption) ?_
    case y_3_1 => (intro wq hSw; (try dsimp only at hSw); go_simp; first | done | with_reducible rfl)
    try simp only [Act.put, List.setIfInBounds_toArray, List.set_cons_zero, List.set_cons_succ]
    refine wpAnyH_take (i := 5) (oi := { dst := some 132, op := Go.Op.move (Go.Operand.tmp 0), type := 25, pos := "law.go:114", after := #[], guard := none }) (v := ?v_5_1) rfl (by kernel_rfl) (by kernel_rfl) (by kernel_rfl) (fun _ _ _ h => h) (Or.inl ⟨by rfl, ?y_5_1⟩) (by assumption) ?_
    case y_5_1 => (intro wq hSw; (try dsimp only at hSw); go_simp; first | done | with_reducible rfl)
    try simp only [Act.put, List.setIfInBounds_toArray, List.set_cons_zero, List.set_cons_succ]
    refine wpAnyH_take (i := 6) (oi := { dst := some 133, op := Go.Op.nilCheck (Go.Operand.tmp 132), type := 0, pos := "law.go:114", after := #[{ on := 5, ground := Go.Ground.data }], guard := none }) (v := ?v_6_1) rfl (by kernel_rfl) (by kernel_rfl) (by kernel_rfl) (fun _ _ _ h => h) (Or.inl ⟨by rfl, ?y_6_1⟩) (by assumption) ?_
    case y_6_1 => (intro wq hSw; (try dsimp only at hSw); go_simp; first | done | with_reducible rfl)
    try simp only [Act.put, List.setIfInBounds_toArray, List.set_cons_zero, List.set_cons_succ]
    refine wpAnyH_take (i := 7) (oi := { dst := some 134, op := Go.Op.fieldAddr 33 (Go.Operand.tmp 133) 3, type := 0, pos := "law.go:114", after := #[{ on := 6, ground := Go.Ground.data }], guard := none }) (v := ?v_7_1) rfl (by kernel_rfl) (by kernel_rfl) (by kernel_rfl) (fun _ _ _ h => h) (Or.inl ⟨by rfl, ?y_7_1⟩) (by assumption) ?_
    case y_7_1 => (intro wq hSw; (try dsimp only at hSw); go_simp; first | done | with_reducible rfl)
    try simp only [Act.put, List.setIfInBounds_toArray, List.set_cons_zero, List.set_cons_succ]
    refine wpAnyH_take (i := 8) (oi := { dst := some 135, op := Go.Op.load 31 (Go.Operand.tmp 134), type := 31, pos := "law.go:114", after := #[{ on := 7, ground := Go.Ground.data }], guard := none }) (v := ?v_8_1) rfl (by kernel_rfl) (by kernel_rfl) (by kernel_rfl) (fun _ _ _ h => h) (Or.inl ⟨by rfl, ?y_8_1⟩) (by assumption) ?_
    case y_8_1 => (intro wq hSw; (try dsimp only at hSw); go_simp; first | done | with_reducible rfl)
    try simp only [Act.put, List.setIfInBounds_toArray, List.set_cons_zero, List.set_cons_succ]
    refine wpAnyH_ready (rs := [4]) (by kernel_rfl) (by simp) ?_
    refine AllReadyH.cons (o := { dst := some 131, op := Go.Op.call { callee := Go.Callee.value (Go.Operand.func 21), args := #[Go.Operand.tmp 130], argTypes := #[30] }, type := 41, pos := "law.go:114", after := #[{ on := 3, ground := Go.Ground.data }], guard := none }) rfl (fun KQ hKQ => ?_) AllReadyH.nil
    go_simp
    refine C1.out.mono ?_
    rintro e y1 ⟨fw1, fd1, rfl, hL1, hC1, hn1, hn2⟩
    have hqy := HQ.out y1 hC1
    have hW1 := refw_kept H1.out HFW.out HW1.out HX4.out HV4.out hC1
    have C4 := Lib.hid (C2.out y1 hW1)
    clear C1 C2
    go_wp2_with fail
    refine hKQ.out _ _ ?s_4 (fun hHeld4 => ?_)
    case s_4 => exact hqy
    clear hKQ KQ
    try simp only [Act.put, List.setIfInBounds_toArray, List.set_cons_zero, List.set_cons_succ]
    refine wpAnyH_ready (rs := [9]) (by kernel_rfl) (by simp) ?_
    refine AllReadyH.cons (o := { dst := some 136, op := Go.Op.call { callee := Go.Callee.value (Go.Operand.func 41), args := #[Go.Operand.tmp 135], argTypes := #[31] }, type := 41, pos := "law.go:114", after := #[{ on := 8, ground := Go.Ground.data }, { on := 4, ground := Go.Ground.chain }], guard := none }) rfl (fun KQ hKQ => ?_) AllReadyH.nil
    go_simp
    refine C4.out.mono ?_
    rintro e y2 ⟨v', rfl, hW2, hC2⟩
    have hqz := HQ2.out y1 y1 y2 hC1 (Nat.le_refl _) (fun _ _ => rfl) hC2
    clear C4
    go_wp2_with fail
    refine hKQ.out _ _ ?s_9 (fun hHeld9 => ?_)
    case s_9 => exact hqz
    clear hKQ KQ
    try simp only [Act.put, List.setIfInBounds_toArray, List.set_cons_zero, List.set_cons_succ]
    refine wpAnyH_ready (rs := [10]) (by kernel_rfl) (by simp) ?_
    refine AllReadyH.cons (o := { dst := some 137, op := Go.Op.binOp Go.BinOp.eql 41 (Go.Operand.tmp 131) (Go.Operand.tmp 136) 41, type := 4, pos := "law.go:114", after := #[{ on := 4, ground := Go.Ground.data }, { on := 9, ground := Go.Ground.data }], guard := none }) rfl (fun KQ hKQ => ?_) AllReadyH.nil
    go_simp
    refine hKQ.out _ _ ?s_10 (fun hHeld10 => ?_)
    case s_10 => exact hqz
    clear hKQ KQ
    try simp only [Act.put, List.setIfInBounds_toArray, List.set_cons_zero, List.set_cons_succ]
    refine wpAnyH_ready (rs := [11]) (by kernel_rfl) (by simp) ?_
    refine AllReadyH.cons (o := { dst := some 4, op := Go.Op.assign (Go.Operand.tmp 137), type := 4, pos := "law.go:114", after := #[{ on := 10, ground := Go.Ground.data }, { on := 9, ground := Go.Ground.chain }, { on := 0, ground := Go.Ground.phase }, { on := 1, ground := Go.Ground.phase }, { on := 2, ground := Go.Ground.phase }, { on := 3, ground := Go.Ground.phase }, { on := 4, ground := Go.Ground.phase }, { on := 5, ground := Go.Ground.phase }, { on := 6, ground := Go.Ground.phase }, { on := 7, ground := Go.Ground.phase }, { on := 8, ground := Go.Ground.phase }, { on := 9, ground := Go.Ground.phase }, { on := 10, ground := Go.Ground.phase }], guard := none }) rfl (fun KQ hKQ => ?_) AllReadyH.nil
    go_simp
    refine hKQ.out _ _ ?s_11 (fun hHeld11 => ?_)
    case s_11 => exact hqz
    clear hKQ KQ
    try simp only [Act.put, List.setIfInBounds_toArray, List.set_cons_zero, List.set_cons_succ]
    refine wpAnyH_done (by kernel_rfl) ?_ _
    obtain ⟨⟨lab', _, hb, hpp⟩, hbel⟩ := H1.out.logs hB1 HFW.out HW1.out HBS.out HX4.out HV4.out HFL.out hL1 hC1 hn1 hn2 (Nat.le_refl _) (fun _ _ => rfl) ⟨rfl, rfl, rfl⟩ hW2 hC2 HFit.out.sync (keeps_file_sync HFile.out) HN.out.1
    have HE := Lib.hid (And.intro hb (And.intro hpp hbel))
    clear hb hpp hbel hW2 hC2 hL1 hC1 hn1 hn2 hW1 hqy hqz hHeld hHeld4 hHeld9 hHeld10 hHeld11
    go_wp2_with fail
    go_ret
    exact ⟨by simp, _, _, _, _, lab', HE.out.1, HE.out.2.1, hB0.drew.trans HE.out.2.2, by have := HN.out.2.1; omega, by have := HN.out.2.2; omega⟩
set_option maxRecDepth 100000 in
set_option maxHeartbeats 2000000 in
theorem do_0 (hkind : placeF o.kind 7 = 0) (hbl : o.b.length ≤ 300) :
    Calls Try.prog 14 #[.pointer (some ⟨q, 0, none⟩), .agg #[.int .i64 o.kind, .int .i64 o.n, .bool o.made, v3, v4, v5]] w (RetDoW w B q a g D) := by
  go_enter Try.func14, Try.ntmps14
  have CP := Lib.hid (place_any o.kind 7 (w.alloc (.cells #[.int .i64 o.kind, .int .i64 o.n, .bool o.made, v3, v4, v5] 39)) ho.kind.1 ho.kind.2 (by omega))
  have hal : Below w.heap.size w (w.alloc (.cells #[.int .i64 o.kind, .int .i64 o.n, .bool o.made, v3, v4, v5] 39)) := (Below.refl _ _).alloc (Nat.le_refl _) _
  obtain ⟨hu, hup⟩ := unlab h hP (Nat.le_refl w.heap.size)
  have hb0 := hu.below hal
  have hp0 := hup.below hu hal
  have hgo0 : (fun k => if k = w.heap.size then 0 else labo k) w.heap.size = 0 := if_pos rfl
  have hblk : Blk 39 (w.alloc (.cells #[.int .i64 o.kind, .int .i64 o.n, .bool o.made, v3, v4, v5] 39)) w.heap.size [.int .i64 o.kind, .int .i64 o.n, .bool o.made, v3, v4, v5] := heap_alloc_new w _
  have hB0 : Below B w (w.alloc (.cells #[.int .i64 o.kind, .int .i64 o.n, .bool o.made, v3, v4, v5] 39)) := hal.mono hB
  have hv1 := hv.below hB0
  have hof : ¬ fd w.heap.size := fun hf => by have := h.d.lt _ hf; omega
  have hog : w.heap.size ≠ g := by have := h.r.lt; omega
  have hoB : B ≤ w.heap.size := hB
  rw [hkind] at CP
  clear h hv hP hal hu hup
  generalize (fun k => if k = w.heap.size then 0 else labo k) = lab at *
  go_upto_region 1 with (fail)
  generalize (w.alloc (.cells #[.int .i64 o.kind, .int .i64 o.n, .bool o.made, v3, v4, v5] 39)) = w1 at *
  generalize w.heap.size = go at *
  have hgo1 : go < w1.heap.size := hblk.lt
  have hB1 : B ≤ w1.heap.size := by omega
  have c0 := hblk.cell 0
  have c1 := hblk.cell 1
  have c2 := hblk.cell 2
  have c3 := hblk.cell 3
  have c4 := hblk.cell 4
  have c5 := hblk.cell 5
  simp only [List.getElem?_cons_zero, List.getElem?_cons_succ] at c0 c1 c2 c3 c4 c5
  have q0 : w1.cell? ⟨q, 0, none⟩ = some (.pointer (some ⟨a, 0, none⟩)) := hb0.qb.cell 0
  have q1 : w1.cell? ⟨q, 1, none⟩ = some (.pointer (some ⟨g, 0, none⟩)) := hb0.qb.cell 1
  have HB1 := Lib.hid hb0
  have HP1 := Lib.hid hp0
  have HBk := Lib.hid hblk
  clear hb0 hp0 hblk
  go_wp2_with fail
  refine CP.out.mono ?_
  clear CP
  rintro e w2 ⟨rfl, rfl⟩
  have q3 : w1.cell? ⟨q, 3, none⟩ = some px := HB1.out.qb.cell 3
  have CP2 := Lib.hid (place_any o.kind 7 w1 ho.kind.1 ho.kind.2 (by omega))
  rw [hkind] at CP2
  rcases HP1.out with ⟨rfl, rfl⟩ | ⟨_, _, _, _, _, _, rfl, rfl, _⟩
  · clear c0 c1 c2 c3 c4 c5 q0 q1 CP2
    go_wp2_with fail
    go_ret
    exact ⟨rfl, D, fd, _, _, _, HB1.out, HP1.out, hB0, Nat.le_add_right _ _, Nat.le_add_right _ _⟩
  · rename_i p x _ _ _ _ _
    obtain ⟨Ab, cb, rfl, hbc, hbm, hRb⟩ := hv1.b
    obtain ⟨nb, hnb⟩ : ∃ nb, o.b.length = nb := ⟨_, rfl⟩
    rw [hnb] at hbc hRb hbl HBk c3
    have CT := Lib.hid (twin_any Ab nb cb o.b w1 (hRb.more hB1) (by omega))
    clear c1 c2 c4 c5 q0 q1
    try rw [hnb]
    go_wp2_with fail
    refine CP2.out.mono ?_
    clear CP2
    rintro e w2 ⟨rfl, rfl⟩
    go_wp2_with fail
    refine CT.out.mono ?_
    clear CT
    rintro e w2 ⟨rfl, hT, hX⟩
    obtain ⟨hb0, hp0⟩ := unlab HB1.out HP1.out (Nat.le_refl w1.heap.size)
    have hgt3 : w1.heap.size < w2.heap.size := hT.lt
    have H1 := Lib.hid ((hb0.below hX).same (w' := w2.drew) (fun _ _ _ => rfl))
    have HP2 := Lib.hid ((hp0.below hb0 hX).same (w' := w2.drew) (Nat.le_refl _) H1.out.r (fun _ _ _ => rfl))
    have hl0 : (fun k => if k = w1.heap.size then 0 else lab k) w1.heap.size = 0 := if_pos rfl
    have hgo3 : go < w2.heap.size := by omega
    have c3' : w2.drew.cell? ⟨go, 3, none⟩ = some (.slice Ab nb cb) := by
      have := hX.cell (p := ⟨go, 3, none⟩) hgo1
      exact this.trans c3
    have hlgo : (fun k => if k = w1.heap.size then 0 else lab k) go = 0 := (if_neg (by omega)).trans hgo0
    have hRb2 : Rd w2.drew B Ab nb o.b := show Rd w2 B Ab nb o.b from hRb.below (hX.mono hB1)
    have hB02 : Below B w w2.drew := (hB0.trans (hX.mono hB1)).drew
    have hT2 : IsTwin w2.drew w1.heap.size o.b := hT
    have hB2 : B ≤ w2.drew.heap.size := by have := hX.size; show B ≤ w2.heap.size; omega
    have hgtB : B ≤ w1.heap.size := hB1
    clear hb0 hp0 hX hT c3 q3 hRb hv1
    generalize (fun k => if k = w1.heap.size then 0 else lab k) = lab1 at *
    have hgd : w2.drew.heap.size = w2.heap.size := rfl
    generalize w1.heap.size = gt at *
    rcases HP2.out with ⟨h1, _⟩ | ⟨p', x', base, X, fw, v, e1, e2, hw, hfw, hW, hbs, hx4, hv4, hF, hfile⟩
    · cases h1
    simp only [Value.pointer.injEq, Option.some.injEq, Addr.mk.injEq, and_true] at e1 e2
    obtain rfl := e1
    obtain rfl := e2
    have hL : wal.Log w2.drew p a X D fw fd := ⟨hw, H1.out.d, fun k h3 h1 => by have := hfw k h3; have := H1.out.ld k h1; omega⟩
    have HFW := Lib.hid hfw
    have HW1 := Lib.hid hW
    have HX4 := Lib.hid hx4
    have HV4 := Lib.hid hv4
    have HFL := Lib.hid (wal.IsWal.lt hw)
    have HBS := Lib.hid hbs
    have HFit := Lib.hid hF
    have HFile := Lib.hid hfile
    have hcvf := fun wq (hq : Rd wq B Ab nb o.b) => run_string_rd (P := Try.prog) wq 35 5 9 Try.underlying35 Try.underlying5 Try.underlying9 B Ab nb cb o.b hq
    have hS : ∀ W : World, (∀ k, lab1 k ≠ 1 → lab1 k ≠ 2 → lab1 k ≠ 3 → lab1 k ≠ 4 → k < w2.drew.heap.size → W.heap[k]? = w2.drew.heap[k]?) → (W.cell? ⟨q, 2, none⟩ = some (.pointer (some ⟨p, 0, none⟩)) ∧ W.cell? ⟨q, 3, none⟩ = some (.pointer (some ⟨x, 0, none⟩))) ∧ W.cell? ⟨go, 3, none⟩ = some (.slice Ab nb cb) ∧ (convert 35 9 (.slice Ab nb cb)).run Try.prog W = .ok (.string (strOfNums o.b)) W := fun W hW => by
      have h5 := H1.out.lq
      have hk := hW q (by omega) (by omega) (by omega) (by omega) H1.out.qb.lt
      have hko := hW go (by omega) (by omega) (by omega) (by omega) hgo3
      rw [World.cell?_of_block (a := ⟨q, 2, none⟩) hk, World.cell?_of_block (a := ⟨q, 3, none⟩) hk, World.cell?_of_block (a := ⟨go, 3, none⟩) hko]
      exact ⟨⟨H1.out.qb.cell 2, H1.out.qb.cell 3⟩, c3', hcvf W (hRb2.keep (fun b o' hb => World.cell?_of_block (a := ⟨b, o', none⟩) (by
        have h0 := H1.out.lB b hb
        exact hW b (by omega) (by omega) (by omega) (by omega) (by omega))))⟩
    have hO1 : ∀ (y1 : World) {f' : Nat → Prop}, disk.Chg (wal.Or2 fw fd) f' w2.drew y1 → ∀ k, lab1 k ≠ 1 → lab1 k ≠ 2 → lab1 k ≠ 3 → lab1 k ≠ 4 → k < w2.drew.heap.size → y1.heap[k]? = w2.drew.heap[k]? := fun y1 f' hC k h1 h2 h3 h4 hk => hC.block k hk (fun hf => hf.elim (fun hf => h3 (hfw k hf)) (fun hf => h1 (H1.out.ld k hf)))
    have hO2 : ∀ (y1 y2 : World) {f' : Nat → Prop} {v' : Value}, disk.Chg (wal.Or2 fw fd) f' w2.drew y1 → ref5.Chg (fpW x g v) (fpW x g v') y1 y2 → ∀ k, lab1 k ≠ 1 → lab1 k ≠ 2 → lab1 k ≠ 3 → lab1 k ≠ 4 → k < w2.drew.heap.size → y2.heap[k]? = w2.drew.heap[k]? := fun y1 y2 f' v' hC hC2 k h1 h2 h3 h4 hk => by
      rw [hC2.block k (Nat.lt_of_lt_of_le hk hC.size) (fun hf => by
        rcases hf with hf | hf | hf
        · exact h4 (by rw [hf]; exact hx4)
        · exact h2 (by rw [hf]; exact H1.out.lg)
        · exact h4 (hv4 k hf))]
      exact hO1 y1 hC k h1 h2 h3 h4 hk
    have HQ := Lib.hid (fun (y1 : World) {f' : Nat → Prop} (hC : disk.Chg (wal.Or2 fw fd) f' w2.drew y1) => hS y1 (hO1 y1 hC))
    have HQ2 := Lib.hid (fun (y1 y2 : World) {f' : Nat → Prop} {v' : Value} (hC : disk.Chg (wal.Or2 fw fd) f' w2.drew y1) (hC2 : ref5.Chg (fpW x g v) (fpW x g v') y1 y2) => hS y2 (hO2 y1 y2 hC hC2))
    have HTw := Lib.hid (fun (y1 y2 : World) {f' : Nat → Prop} {v' : Value} (hC : disk.Chg (wal.Or2 fw fd) f' w2.drew y1) (hC2 : ref5.Chg (fpW x g v) (fpW x g v') y1 y2) => show IsTwin y2 gt o.b from (hO2 y1 y2 hC hC2 gt (by omega) (by omega) (by omega) (by omega) (by omega)).trans hT2)
    have HRd := Lib.hid (fun (y1 y2 : World) {f' : Nat → Prop} {v' : Value} (hC : disk.Chg (wal.Or2 fw fd) f' w2.drew y1) (hC2 : ref5.Chg (fpW x g v) (fpW x g v') y1 y2) => show Rd y2 B Ab nb o.b from hRb2.keep (fun b o' hb => World.cell?_of_block (a := ⟨b, o', none⟩) (by
        have h0 := H1.out.lB b hb
        exact hO2 y1 y2 hC hC2 b (by omega) (by omega) (by omega) (by omega) (by omega))))
    have C3 := Lib.hid (fun (y1 y2 : World) {f' : Nat → Prop} {v' : Value} (hC : disk.Chg (wal.Or2 fw fd) f' w2.drew y1) (hC2 : ref5.Chg (fpW x g v) (fpW x g v') y1 y2) => kept_any gt Ab nb cb o.b y2 B (HTw.out y1 y2 hC hC2) (HRd.out y1 y2 hC hC2) (by omega))
    have C1 := Lib.hid (wal.append_any p a X D fw fd w2.drew hL H1.out.good (by omega) (by omega) hF hfile (some ⟨gt, 0, none⟩) nb (nb + 3) o.b (fun W hsz hk => (IsTwin.rd (w := W) (g := gt) (l := o.b) (show IsTwin W gt o.b from (hk gt hgt3 (fun hf => by
      rcases hf with hf | hf
      · have := hfw gt hf; omega
      · have := H1.out.ld gt hf; omega)).trans hT2) hnb (by have : gt < w2.drew.heap.size := hgt3; omega))) ho.b (by omega) (by omega) (by unfold maxLen; omega))
    have C2 := Lib.hid (fun (W : World) (hW : RefW W x g base X D v) (hb : base ≤ W.heap.size) => ref5.append_any x g base X D v o.b W hW H1.out.good (by omega) hb hF ho.b (by omega))
    have HN := Lib.hid (append_near X D o.b H1.out.good (by omega) ho.b)
    have hs0 := hS w2.drew (fun _ _ _ _ _ _ => rfl)
    generalize strOfNums o.b = T at *
    clear hS hO1 hO2 hcvf hw hfw hW hbs hx4 hv4 hF hfile hL HP2 c3' hT2 hRb2 c0
    go_upto_region 22 with (fail)
    refine wp_region_held_drew (S := fun wq => (wq.cell? ⟨q, 2, none⟩ = some (.pointer (some ⟨p, 0, none⟩)) ∧ wq.cell? ⟨q, 3, none⟩ = some (.pointer (some ⟨x, 0, none⟩))) ∧ wq.cell? ⟨go, 3, none⟩ = some (.slice Ab nb cb) ∧ (convert 35 9 (.slice Ab nb cb)).run Try.prog wq = .ok (.string T) wq) (by kernel_rfl) ?s_0 (fun hHeld => ?_)
    case s_0 => exact hs0
    clear hs0
    refine wpAnyH_take (i := 0) (oi := { dst := some 101, op := Go.Op.move (Go.Operand.tmp 0), type := 25, pos := "law.go:110", after := #[], guard := none }) (v := ?v_0_2) rfl (by kernel_rfl) (by kernel_rfl) (by kernel_rfl) (fun _ _ _ h => h) (Or.inl ⟨by rfl, ?y_0_2⟩) (by assumption) ?_
    case y_0_2 => (intro wq hSw; (try dsimp only at hSw); go_simp; first | done | with_reducible rfl)
    try simp only [Act.put, List.setIfInBounds_toArray, List.set_cons_zero, List.set_cons_succ]
    refine wpAnyH_take (i := 1) (oi := { dst := some 102, op := Go.Op.nilCheck (Go.Operand.tmp 101), type := 0, pos := "law.go:110", after := #[{ on := 0, ground := Go.Ground.data }], guard := none }) (v := ?v_1_2) rfl (by kernel_rfl) (by kernel_rfl) (by kernel_rfl) (fun _ _ _ h => h) (Or.inl ⟨by rfl, ?y_1_2⟩) (by assumption) ?_
    case y_1_2 => (intro wq hSw; (try dsimp only at hSw); go_simp; first | done | with_reducible rfl)
    try simp only [Act.put, List.setIfInBounds_toArray, List.set_cons_zero, List.set_cons_succ]
    refine wpAnyH_take (i := 2) (oi := { dst := some 103, op := Go.Op.fieldAddr 33 (Go.Operand.tmp 102) 2, type := 0, pos := "law.go:110", after := #[{ on := 1, ground := Go.Ground.data }], guard := none }) (v := ?v_2_2) rfl (by kernel_rfl) (by kernel_rfl) (by kernel_rfl) (fun _ _ _ h => h) (Or.inl ⟨by rfl, ?y_2_2⟩) (by assumption) ?_
    case y_2_2 => (intro wq hSw; (try dsimp only at hSw); go_simp; first | done | with_reducible rfl)
    try simp only [Act.put, List.setIfInBounds_toArray, List.set_cons_zero, List.set_cons_succ]
    refine wpAnyH_take (i := 3) (oi := { dst := some 104, op := Go.Op.load 30 (Go.Operand.tmp 103), type := 30, pos := "law.go:110", after := #[{ on := 2, ground := Go.Ground.data }], guard := none }) (v := ?v_3_2) rfl (by kernel_rfl) (by kernel_rfl) (by kernel_rfl) (fun _ _ _ h => h) (Or.inl ⟨by rfl, ?y_3_2⟩) (by assumption) ?_
    case y_3_2 => (intro wq hSw; (try dsimp only at hSw); go_simp; first | done | with_reducible rfl)
    try simp only [Act.put, List.setIfInBounds_toArray, List.set_cons_zero, List.set_cons_succ]
    refine wpAnyH_take (i := 4) (oi := { dst := some 105, op := Go.Op.move (Go.Operand.tmp 6), type := 35, pos := "law.go:110", after := #[], guard := none }) (v := ?v_4_2) rfl (by kernel_rfl) (by kernel_rfl) (by kernel_rfl) (fun _ _ _ h => h) (Or.inl ⟨by rfl, ?y_4_2⟩) (by assumption) ?_
    case y_4_2 => (intro wq hSw; (try dsimp only at hSw); go_simp; first | done | with_reducible rfl)
    try simp only [Act.put, List.setIfInBounds_toArray, List.set_cons_zero, List.set_cons_succ]
    refine wpAnyH_take (i := 6) (oi := { dst := some 107, op := Go.Op.move (Go.Operand.tmp 0), type := 25, pos := "law.go:110", after := #[], guard := none }) (v := ?v_6_2) rfl (by kernel_rfl) (by kernel_rfl) (by kernel_rfl) (fun _ _ _ h => h) (Or.inl ⟨by rfl, ?y_6_2⟩) (by assumption) ?_
    case y_6_2 => (intro wq hSw; (try dsimp only at hSw); go_simp; first | done | with_reducible rfl)
    try simp only [Act.put, List.setIfInBounds_toArray, List.set_cons_zero, List.set_cons_succ]
    refine wpAnyH_take (i := 7) (oi := { dst := some 108, op := Go.Op.nilCheck (Go.Operand.tmp 107), type := 0, pos := "law.go:110", after := #[{ on := 6, ground := Go.Ground.data }], guard := none }) (v := ?v_7_2) rfl (by kernel_rfl) (by kernel_rfl) (by kernel_rfl) (fun _ _ _ h => h) (Or.inl ⟨by rfl, ?y_7_2⟩) (by assumption) ?_
    case y_7_2 => (intro wq hSw; (try dsimp only at hSw); go_simp; first | done | with_reducible rfl)
    try simp only [Act.put, List.setIfInBounds_toArray, List.set_cons_zero, List.set_cons_succ]
    refine wpAnyH_take (i := 8) (oi := { dst := some 109, op := Go.Op.fieldAddr 33 (Go.Operand.tmp 108) 3, type := 0, pos := "law.go:110", after := #[{ on := 7, ground := Go.Ground.data }], guard := none }) (v := ?v_8_2) rfl (by kernel_rfl) (by kernel_rfl) (by kernel_rfl) (fun _ _ _ h => h) (Or.inl ⟨by rfl, ?y_8_2⟩) (by assumption) ?_
    case y_8_2 => (intro wq hSw; (try dsimp only at hSw); go_simp; first | done | with_reducible rfl)
    try simp only [Act.put, List.setIfInBounds_toArray, List.set_cons_zero, List.set_cons_succ]
    refine wpAnyH_take (i := 9) (oi := { dst := some 110, op := Go.Op.load 31 (Go.Operand.tmp 109), type := 31, pos := "law.go:110", after := #[{ on := 8, ground := Go.Ground.data }], guard := none }) (v := ?v_9_2) rfl (by kernel_rfl) (by kernel_rfl) (by kernel_rfl) (fun _ _ _ h => h) (Or.inl ⟨by rfl, ?y_9_2⟩) (by assumption) ?_
    case y_9_2 => (intro wq hSw; (try dsimp only at hSw); go_simp; first | done | with_reducible rfl)
    try simp only [Act.put, List.setIfInBounds_toArray, List.set_cons_zero, List.set_cons_succ]
    refine wpAnyH_take (i := 10) (oi := { dst := some 111, op := Go.Op.fieldAddr 39 (Go.Operand.tmp 3) 3, type := 0, pos := "law.go:110", after := #[], guard := none }) (v := ?v_10_2) rfl (by kernel_rfl) (by kernel_rfl) (by kernel_rfl) (fun _ _ _ h => h) (Or.inl ⟨by rfl, ?y_10_2⟩) (by assumption) ?_
    case y_10_2 => (intro wq hSw; (try dsimp only at hSw); go_simp; first | done | with_reducible rfl)
    try simp only [Act.put, List.setIfInBounds_toArray, List.set_cons_zero, List.set_cons_succ]
    refine wpAnyH_take (i := 11) (oi := { dst := some 112, op := Go.Op.load 35 (Go.Operand.tmp 111), type := 35, pos := "law.go:110", after := #[{ on := 10, ground := Go.Ground.data }], guard := none }) (v := ?v_11_2) rfl (by kernel_rfl) (by kernel_rfl) (by kernel_rfl) (fun _ _ _ h => h) (Or.inl ⟨by rfl, ?y_11_2⟩) (by assumption) ?_
    case y_11_2 => (intro wq hSw; (try dsimp only at hSw); go_simp; first | done | with_reducible rfl)
    try simp only [Act.put, List.setIfInBounds_toArray, List.set_cons_zero, List.set_cons_succ]
    refine wpAnyH_take (i := 12) (oi := { dst := some 113, op := Go.Op.convert 35 9 (Go.Operand.tmp 112), type := 9, pos := "law.go:110", after := #[{ on := 11, ground := Go.Ground.data }], guard := none }) (v := ?v_12_2) rfl (by kernel_rfl) (by kernel_rfl) (by kernel_rfl) (fun _ _ _ h => h) (Or.inl ⟨by rfl, ?y_12_2⟩) (by assumption) ?_
    case y_12_2 => (intro wq hSw; (try dsimp only at hSw); go_simp; first | done | with_reducible rfl)
    try simp only [Act.put, List.setIfInBounds_toArray, List.set_cons_zero, List.set_cons_succ]
    refine wpAnyH_ready (rs := [5]) (by kernel_rfl) (by simp) ?_
    refine AllReadyH.cons (o := { dst := some 106, op := Go.Op.call { callee := Go.Callee.value (Go.Operand.func 20), args := #[Go.Operand.tmp 104, Go.Operand.tmp 105], argTypes := #[30, 35] }, type := 41, pos := "law.go:110", after := #[{ on := 3, ground := Go.Ground.data }, { on := 4, ground := Go.Ground.data }], guard := none }) rfl (fun KQ hKQ => ?_) AllReadyH.nil
    go_simp
    refine C1.out.mono ?_
    rintro e y1 ⟨fw1, fd1, rfl, hL1, hC1, hn1, hn2⟩
    have hqy := HQ.out y1 hC1
    have hW1 := refw_kept H1.out HFW.out HW1.out HX4.out HV4.out hC1
    have C4 := Lib.hid (C2.out y1 hW1 (Nat.le_trans HBS.out hC1.size))
    clear C1 C2
    go_wp2_with fail
    refine hKQ.out _ _ ?s_5 (fun hHeld5 => ?_)
    case s_5 => exact hqy
    clear hKQ KQ
    try simp only [Act.put, List.setIfInBounds_toArray, List.set_cons_zero, List.set_cons_succ]
    refine wpAnyH_ready (rs := [13]) (by kernel_rfl) (by simp) ?_
    refine AllReadyH.cons (o := { dst := some 114, op := Go.Op.call { callee := Go.Callee.value (Go.Operand.func 38), args := #[Go.Operand.tmp 110, Go.Operand.tmp 113], argTypes := #[31, 9] }, type := 41, pos := "law.go:110", after := #[{ on := 9, ground := Go.Ground.data }, { on := 12, ground := Go.Ground.data }, { on := 5, ground := Go.Ground.chain }], guard := none }) rfl (fun KQ hKQ => ?_) AllReadyH.nil
    go_simp
    refine C4.out.mono ?_
    rintro e y2 ⟨v', rfl, hW2, hC2⟩
    have hqz := HQ2.out y1 y2 hC1 hC2
    have C5 := Lib.hid (C3.out y1 y2 hC1 hC2)
    clear C4
    go_wp2_with fail
    refine hKQ.out _ _ ?s_13 (fun hHeld13 => ?_)
    case s_13 => exact hqz
    clear hKQ KQ
    try simp only [Act.put, List.setIfInBounds_toArray, List.set_cons_zero, List.set_cons_succ]
    refine wpAnyH_take (i := 14) (oi := { dst := some 115, op := Go.Op.binOp Go.BinOp.eql 41 (Go.Operand.tmp 106) (Go.Operand.tmp 114) 41, type := 4, pos := "law.go:110", after := #[{ on := 5, ground := Go.Ground.data }, { on := 13, ground := Go.Ground.data }], guard := none }) (v := ?v_14_2) rfl (by kernel_rfl) (by kernel_rfl) (by kernel_rfl) (fun _ _ _ h => h) (Or.inl ⟨by rfl, ?y_14_2⟩) (by assumption) ?_
    case y_14_2 => (intro wq hSw; (try dsimp only at hSw); go_simp; first | done | with_reducible rfl)
    try simp only [Act.put, List.setIfInBounds_toArray, List.set_cons_zero, List.set_cons_succ]
    refine wpAnyH_take (i := 15) (oi := { dst := some 116, op := Go.Op.move (Go.Operand.tmp 115), type := 4, pos := "law.go:110", after := #[{ on := 14, ground := Go.Ground.data }, { on := 13, ground := Go.Ground.chain }], guard := none }) (v := ?v_15_2) rfl (by kernel_rfl) (by kernel_rfl) (by kernel_rfl) (fun _ _ _ h => h) (Or.inl ⟨by rfl, ?y_15_2⟩) (by assumption) ?_
    case y_15_2 => (intro wq hSw; (try dsimp only at hSw); go_simp; first | done | with_reducible rfl)
    try simp only [Act.put, List.setIfInBounds_toArray, List.set_cons_zero, List.set_cons_succ]
    refine wpAnyH_take (i := 16) (oi := { dst := some 117, op := Go.Op.move (Go.Operand.tmp 6), type := 35, pos := "law.go:110", after := #[{ on := 15, ground := Go.Ground.guard }], guard := some (15, true) }) (v := ?v_16_2) rfl (by kernel_rfl) (by kernel_rfl) (by kernel_rfl) (fun _ _ _ h => h) (Or.inl ⟨by rfl, ?y_16_2⟩) (by assumption) ?_
    case y_16_2 => (intro wq hSw; (try dsimp only at hSw); go_simp; first | done | with_reducible rfl)
    try simp only [Act.put, List.setIfInBounds_toArray, List.set_cons_zero, List.set_cons_succ]
    refine wpAnyH_take (i := 17) (oi := { dst := some 118, op := Go.Op.fieldAddr 39 (Go.Operand.tmp 3) 3, type := 0, pos := "law.go:110", after := #[{ on := 15, ground := Go.Ground.guard }], guard := some (15, true) }) (v := ?v_17_2) rfl (by kernel_rfl) (by kernel_rfl) (by kernel_rfl) (fun _ _ _ h => h) (Or.inl ⟨by rfl, ?y_17_2⟩) (by assumption) ?_
    case y_17_2 => (intro wq hSw; (try dsimp only at hSw); go_simp; first | done | with_reducible rfl)
    try simp only [Act.put, List.setIfInBounds_toArray, List.set_cons_zero, List.set_cons_succ]
    refine wpAnyH_take (i := 18) (oi := { dst := some 119, op := Go.Op.load 35 (Go.Operand.tmp 118), type := 35, pos := "law.go:110", after := #[{ on := 17, ground := Go.Ground.data }, { on := 15, ground := Go.Ground.guard }], guard := some (15, true) }) (v := ?v_18_2) rfl (by kernel_rfl) (by kernel_rfl) (by kernel_rfl) (fun _ _ _ h => h) (Or.inl ⟨by rfl, ?y_18_2⟩) (by assumption) ?_
    case y_18_2 => (intro wq hSw; (try dsimp only at hSw); go_simp; first | done | with_reducible rfl)
    try simp only [Act.put, List.setIfInBounds_toArray, List.set_cons_zero, List.set_cons_succ]
    refine wpAnyH_ready (rs := [19]) (by kernel_rfl) (by simp) ?_
    refine AllReadyH.cons (o := { dst := some 120, op := Go.Op.call { callee := Go.Callee.value (Go.Operand.func 39), args := #[Go.Operand.tmp 117, Go.Operand.tmp 119], argTypes := #[35, 35] }, type := 4, pos := "law.go:110", after := #[{ on := 16, ground := Go.Ground.data }, { on := 18, ground := Go.Ground.data }, { on := 15, ground := Go.Ground.chain }, { on := 15, ground := Go.Ground.guard }], guard := some (15, true) }) rfl (fun KQ hKQ => ?_) AllReadyH.nil
    go_simp
    refine C5.out.mono ?_
    rintro e y3 ⟨rfl, rfl⟩
    go_wp2_with fail
    refine hKQ.out _ _ ?s_19 (fun hHeld19 => ?_)
    case s_19 => exact hqz
    clear hKQ KQ
    try simp only [Act.put, List.setIfInBounds_toArray, List.set_cons_zero, List.set_cons_succ]
    refine wpAnyH_take (i := 20) (oi := { dst := some 121, op := Go.Op.pick (Go.Operand.tmp 116) (Go.Operand.tmp 120) (Go.Operand.const (Go.Value.bool false)), type := 4, pos := "law.go:110", after := #[{ on := 15, ground := Go.Ground.data }, { on := 19, ground := Go.Ground.data }], guard := none }) (v := ?v_20_2) rfl (by kernel_rfl) (by kernel_rfl) (by kernel_rfl) (fun _ _ _ h => h) (Or.inl ⟨by rfl, ?y_20_2⟩) (by assumption) ?_
    case y_20_2 => (intro wq hSw; (try dsimp only at hSw); go_simp; first | done | with_reducible rfl)
    try simp only [Act.put, List.setIfInBounds_toArray, List.set_cons_zero, List.set_cons_succ]
    refine wpAnyH_ready (rs := [21]) (by kernel_rfl) (by simp) ?_
    refine AllReadyH.cons (o := { dst := some 7, op := Go.Op.assign (Go.Operand.tmp 121), type := 4, pos := "law.go:110", after := #[{ on := 20, ground := Go.Ground.data }, { on := 19, ground := Go.Ground.chain }, { on := 0, ground := Go.Ground.phase }, { on := 1, ground := Go.Ground.phase }, { on := 2, ground := Go.Ground.phase }, { on := 3, ground := Go.Ground.phase }, { on := 4, ground := Go.Ground.phase }, { on := 5, ground := Go.Ground.phase }, { on := 6, ground := Go.Ground.phase }, { on := 7, ground := Go.Ground.phase }, { on := 8, ground := Go.Ground.phase }, { on := 9, ground := Go.Ground.phase }, { on := 10, ground := Go.Ground.phase }, { on := 11, ground := Go.Ground.phase }, { on := 12, ground := Go.Ground.phase }, { on := 13, ground := Go.Ground.phase }, { on := 14, ground := Go.Ground.phase }, { on := 15, ground := Go.Ground.phase }, { on := 16, ground := Go.Ground.phase }, { on := 17, ground := Go.Ground.phase }, { on := 18, ground := Go.Ground.phase }, { on := 19, ground := Go.Ground.phase }, { on := 20, ground := Go.Ground.phase }], guard := none }) rfl (fun KQ hKQ => ?_) AllReadyH.nil
    go_simp
    refine hKQ.out _ _ ?s_21 (fun hHeld21 => ?_)
    case s_21 => exact hqz
    clear hKQ KQ
    try simp only [Act.put, List.setIfInBounds_toArray, List.set_cons_zero, List.set_cons_succ]
    refine wpAnyH_done (by kernel_rfl) ?_ _
    have hTy := HTw.out y1 y2 hC1 hC2
    have hOw : Own 5 y2 gt (.slice (some ⟨gt, 0, none⟩) nb (nb + 3)) o.b := own_of_block (Nat.le_refl _) hTy hnb (by omega) (by omega) (by rw [u8s_length, List.length_append, hnb]; rfl) (by rw [u8s_append, ← hnb, ← u8s_length]; exact List.take_left)
    have E1 := Lib.hid (spoil_any (some ⟨gt, 0, none⟩) nb (nb + 3) o.b y2 gt hOw)
    obtain ⟨⟨lab', hl', hb, hpp⟩, hbel⟩ := H1.out.logs hB2 HFW.out HW1.out HBS.out HX4.out HV4.out HFL.out hL1 hC1 hn1 hn2 (Nat.le_refl _) (fun _ _ => rfl) ⟨rfl, rfl, rfl⟩ hW2 hC2 (HFit.out.append ho.b HFile.out) (keeps_file_append HFile.out) HN.out.1
    have hlgt : lab' gt = 0 := (hl' gt hgt3).trans hl0
    have hsz2 : B ≤ y2.heap.size := Nat.le_trans hB2 hbel.size
    have HE := Lib.hid (And.intro hb (And.intro hpp hbel))
    clear hb hpp hbel hW2 hC2 hL1 hC1 hn1 hn2 hW1 hqy hqz hHeld hHeld5 hHeld13 hHeld19 hHeld21 hTy hOw hl' HQ HQ2 HTw HRd C3
    go_wp2_with fail
    refine E1.out.mono ?_
    rintro e z1 ⟨rfl, hG⟩
    have hG' : y2.grownBy z1 (some gt) := hG
    have hb3 := HE.out.1.same (w' := z1) (fun k hk hlt => hG'.block k hlt (by intro e; exact hk (by rw [Option.some.inj e]; exact hlgt)))
    have hp3 := HE.out.2.1.same (w' := z1) hG'.size hb3.r (fun k hk hlt => hG'.block k hlt (by intro e; have h0 := Option.some.inj e; subst h0; omega))
    have hbz := below_grown (Below.refl B y2) hG' hgtB hsz2
    have HF3 := Lib.hid (And.intro hb3 (And.intro hp3 (HE.out.2.2.trans hbz)))
    clear hb3 hp3 hbz hG hG' E1 HE
    go_wp2_with fail
    go_ret
    exact ⟨by simp, _, _, _, _, lab', HF3.out.1, HF3.out.2.1, hB02.trans HF3.out.2.2, by have := HN.out.2.1; omega, by have := HN.out.2.2; omega⟩
end
end Go.Proofs.Ytafdgibkhefplaa.law5
