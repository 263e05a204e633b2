/- The statements' own do, of logs: bytes appended by hand. Conditions: those that each theorem names. -/
import Derived.Test.YtafdgibkhefplaaDoW2
namespace Go.Proofs.Ytafdgibkhefplaa.law5
open Go.RowKit Go.Proofs.Ytafdgibkhefplaa.kit Go.Proofs.Ytafdgibkhefplaa.nums Go.Proofs.Ytafdgibkhefplaa.ds Go.Proofs.Ytafdgibkhefplaa.rec_ Go.Proofs.Ytafdgibkhefplaa.ws Go.Proofs.Ytafdgibkhefplaa.ref4 Go.Proofs.Ytafdgibkhefplaa.ref5 Go.Proofs.Ytafdgibkhefplaa.law0 Go.Proofs.Ytafdgibkhefplaa.bytes
set_option linter.unusedVariables false

/-- Numbers that nobody has may be 0. -/
theorem unlabs {w : World} {B q a g n : Nat} {D : DS} {fd : Nat → Prop} {pw px : Value} {lab : Nat → Nat} (h : BothD w B q a g D fd pw px lab) (hP : Part w a g D pw px lab) (hn : w.heap.size ≤ n) : BothD w B q a g D fd pw px (fun k => if n ≤ k then 0 else lab k) ∧ Part w a g D pw px (fun k => if n ≤ k then 0 else lab k) := by
  have hk : ∀ k, k < w.heap.size → (fun k => if n ≤ k then 0 else lab k) k = lab k := fun k hk => if_neg (by omega)
  refine ⟨⟨h.qb, (hk q h.qb.lt).trans h.lq, h.d, fun k hf => (hk k (h.d.lt k hf)).trans (h.ld k hf), h.r, (hk g h.r.lt).trans h.lg, fun k hB => ?_, h.good⟩, ?_⟩
  · show (if n ≤ k then 0 else lab k) = 0
    split
    · rfl
    · exact h.lB k hB
  · rcases hP with hP | ⟨p, x, base, X, fw, v, h1, h2, h3, h4, h5, h6, h7, h8, h9, h10⟩
    · exact .inl hP
    · exact .inr ⟨p, x, base, X, fw, v, h1, h2, h3, fun k hf => (hk k (h3.lt k hf)).trans (h4 k hf), h5, h6, (hk x h5.blk.lt).trans h7, fun k hf => (hk k (h5.own.lt k hf).2).trans (h8 k hf), h9, h10⟩
section
variable (w : World) (B q a g : Nat) (D : DS) (fd : Nat → Prop) (pw px : Value) (labo : Nat → Nat) (o : OpW) (v3 v4 v5 : Value) (h : BothD w B q a g D fd pw px labo) (hP : Part w a g D pw px labo) (hB : B ≤ w.heap.size) (hs : D.stepped ≤ 980000) (hp : D.powers ≤ 980000) (ho : OpWOk o) (hv : OpWV w B o v3 v4 v5)
include h hP hB hs hp ho hv
set_option maxRecDepth 100000 in
set_option maxHeartbeats 2000000 in
theorem do_6 (hkind : placeF o.kind 7 = 6) (hbl : o.b.length ≤ 300) :
    Calls Try.prog 14 #[.pointer (some ⟨q, 0, none⟩), .agg #[.int .i64 o.kind, .int .i64 o.n, .bool o.made, v3, v4, v5]] w (RetDoW w B q a g D) := by
  go_enter Try.func14, Try.ntmps14
  have CP := Lib.hid (place_any o.kind 7 (w.alloc (.cells #[.int .i64 o.kind, .int .i64 o.n, .bool o.made, v3, v4, v5] 39)) ho.kind.1 ho.kind.2 (by omega))
  have hal : Below w.heap.size w (w.alloc (.cells #[.int .i64 o.kind, .int .i64 o.n, .bool o.made, v3, v4, v5] 39)) := (Below.refl _ _).alloc (Nat.le_refl _) _
  obtain ⟨hu, hup⟩ := unlab h hP (Nat.le_refl w.heap.size)
  have hb0 := hu.below hal
  have hp0 := hup.below hu hal
  have hgo0 : (fun k => if k = w.heap.size then 0 else labo k) w.heap.size = 0 := if_pos rfl
  have hblk : Blk 39 (w.alloc (.cells #[.int .i64 o.kind, .int .i64 o.n, .bool o.made, v3, v4, v5] 39)) w.heap.size [.int .i64 o.kind, .int .i64 o.n, .bool o.made, v3, v4, v5] := heap_alloc_new w _
  have hB0 : Below B w (w.alloc (.cells #[.int .i64 o.kind, .int .i64 o.n, .bool o.made, v3, v4, v5] 39)) := hal.mono hB
  have hv1 := hv.below hB0
  have hof : ¬ fd w.heap.size := fun hf => by have := h.d.lt _ hf; omega
  have hog : w.heap.size ≠ g := by have := h.r.lt; omega
  have hoB : B ≤ w.heap.size := hB
  rw [hkind] at CP
  clear h hv hP hal hu hup
  generalize (fun k => if k = w.heap.size then 0 else labo k) = lab at *
  go_upto_region 1 with (fail)
  generalize (w.alloc (.cells #[.int .i64 o.kind, .int .i64 o.n, .bool o.made, v3, v4, v5] 39)) = w1 at *
  generalize w.heap.size = go at *
  have hgo1 : go < w1.heap.size := hblk.lt
  have hB1 : B ≤ w1.heap.size := by omega
  have c0 := hblk.cell 0
  have c1 := hblk.cell 1
  have c2 := hblk.cell 2
  have c3 := hblk.cell 3
  have c4 := hblk.cell 4
  have c5 := hblk.cell 5
  simp only [List.getElem?_cons_zero, List.getElem?_cons_succ] at c0 c1 c2 c3 c4 c5
  have q0 : w1.cell? ⟨q, 0, none⟩ = some (.pointer (some ⟨a, 0, none⟩)) := hb0.qb.cell 0
  have q1 : w1.cell? ⟨q, 1, none⟩ = some (.pointer (some ⟨g, 0, none⟩)) := hb0.qb.cell 1
  have HB1 := Lib.hid hb0
  have HP1 := Lib.hid hp0
  have HBk := Lib.hid hblk
  clear hb0 hp0 hblk
  go_wp2_with fail
  refine CP.out.mono ?_
  clear CP
  rintro e w2 ⟨rfl, rfl⟩
  obtain ⟨Ab, cb, rfl, hbc, hbm, hRb⟩ := hv1.b
  obtain ⟨nb, hnb⟩ : ∃ nb, o.b.length = nb := ⟨_, rfl⟩
  rw [hnb] at hbc hRb hbl HBk c3
  try rw [hnb]
  obtain ⟨hb0, hp0⟩ := unlabs HB1.out HP1.out (Nat.le_refl w1.heap.size)
  have hgl : (fun k => if w1.heap.size ≤ k then 0 else lab k) go = 0 := (if_neg (by omega)).trans hgo0
  have hnl : ∀ k, w1.heap.size ≤ k → (fun k => if w1.heap.size ≤ k then 0 else lab k) k = 0 := fun k hk => if_pos hk
  rcases hmade : o.made with _ | _
  · rw [hmade] at c2 HBk
    generalize (fun k => if w1.heap.size ≤ k then 0 else lab k) = lab1 at *
    have c1' : w1.drew.cell? ⟨go, 1, none⟩ = some (.int .i64 o.n) := c1
    have hb2 := hb0
    have hp2 := hp0
    have hlb : 0 < nb → ∀ b o', Ab = some ⟨b, o', none⟩ → lab1 b = 0 := fun hn b o' e => by
      obtain ⟨b2, o2, e2, hlt, _⟩ := hRb.2 hn
      rw [e] at e2
      simp only [Option.some.injEq, Addr.mk.injEq, and_true] at e2
      obtain ⟨rfl, -⟩ := e2
      exact hb0.lB b hlt
    have hRx := hRb.more hB1
    have hYx := ho.b
    have hncx := hbc
    have hcxm := hbm
    have hgo3 : go < w1.drew.heap.size := hgo1
    have hB2 : B ≤ w1.drew.heap.size := hB1
    have hB02 := hB0
    clear hb0 hp0 hRb hv1 c0 c4 c5
    go_upto_region 16 with (fail)
    clear c1 c2 c3 q0 q1
    generalize o.b = lx at *
    generalize hy0 : w1 = y0 at *
    have HP2 := Lib.hid (hp2.same (w' := y0.drew) (Nat.le_refl _) (hb2.same (w' := y0.drew) (fun _ _ _ => rfl)).r (fun _ _ _ => rfl))
    have H1 := Lib.hid (hb2.same (w' := y0.drew) (fun _ _ _ => rfl))
    have hlx : lx.length = nb := hRx.len
    have hlow : ∀ W : World, (∀ k, lab1 k ≠ 1 → lab1 k ≠ 2 → k < y0.drew.heap.size → W.heap[k]? = y0.drew.heap[k]?) → y0.drew.heap.size ≤ W.heap.size → Rd W W.heap.size Ab nb lx := fun W hW hsz => ⟨hlx, fun hn => by
      obtain ⟨b, o', e, hb, hc⟩ := hRx.2 hn
      refine ⟨b, o', e, Nat.lt_of_lt_of_le hb hsz, fun j hj => ?_⟩
      have h0 := hlb hn b o' e
      rw [World.cell?_of_block (a := ⟨b, o' + j, none⟩) (hW b (by omega) (by omega) hb)]
      exact hc j hj⟩
    have hcvf := fun (wq : World) (hq : Rd wq wq.heap.size Ab nb lx) => run_string_rd (P := Try.prog) wq 35 5 9 Try.underlying35 Try.underlying5 Try.underlying9 wq.heap.size Ab nb cb lx hq
    have hS : ∀ W : World, (∀ k, lab1 k ≠ 1 → lab1 k ≠ 2 → k < y0.drew.heap.size → W.heap[k]? = y0.drew.heap[k]?) → y0.drew.heap.size ≤ W.heap.size → (W.cell? ⟨q, 0, none⟩ = some (.pointer (some ⟨a, 0, none⟩)) ∧ W.cell? ⟨q, 1, none⟩ = some (.pointer (some ⟨g, 0, none⟩))) ∧ W.cell? ⟨go, 1, none⟩ = some (.int .i64 o.n) ∧ (convert 35 9 (.slice Ab nb cb)).run Try.prog W = .ok (.string (strOfNums lx)) W := fun W hW hsz => by
      have h5 := H1.out.lq
      have hk := hW q (by omega) (by omega) H1.out.qb.lt
      have hko := hW go (by omega) (by omega) hgo3
      rw [World.cell?_of_block (a := ⟨q, 0, none⟩) hk, World.cell?_of_block (a := ⟨q, 1, none⟩) hk, World.cell?_of_block (a := ⟨go, 1, none⟩) hko]
      exact ⟨⟨H1.out.qb.cell 0, H1.out.qb.cell 1⟩, c1', hcvf W (hlow W hW hsz)⟩
    have hO1 : ∀ (y1 : World) {f' : Nat → Prop}, disk.Chg fd f' y0.drew y1 → ∀ k, lab1 k ≠ 1 → lab1 k ≠ 2 → k < y0.drew.heap.size → y1.heap[k]? = y0.drew.heap[k]? := fun y1 f' hC k h1 h2 hk => hC.block k hk (fun hf => h1 (H1.out.ld k hf))
    have HQ := Lib.hid (fun (y1 : World) {f' : Nat → Prop} (hC : disk.Chg fd f' y0.drew y1) => hS y1 (hO1 y1 hC) hC.size)
    have HR := Lib.hid (fun (y1 : World) {f' : Nat → Prop} (hC : disk.Chg fd f' y0.drew y1) => show IsRef y1 g D from H1.out.r.keep (hC.block g H1.out.r.lt (fun hf => by have h1 := H1.out.ld g hf; have h2 := H1.out.lg; omega)))
    have HQ2 := Lib.hid (fun (y1 y2 : World) {f' : Nat → Prop} (hC : disk.Chg fd f' y0.drew y1) (hG : y1.grownBy y2 (some g)) => hS y2 (fun k h1 h2 hk => by
      rw [hG.block k (Nat.lt_of_lt_of_le hk hC.size) (by intro e; exact h2 (by rw [Option.some.inj e]; exact H1.out.lg))]
      exact hO1 y1 hC k h1 h2 hk) (Nat.le_trans hC.size hG.size))
    have C1 := Lib.hid (disk.append_any a D fd y0.drew H1.out.d H1.out.good (by omega) (by omega) o.n Ab nb cb lx (hlow y0.drew (fun _ _ _ _ => rfl) (Nat.le_refl _)) hYx (by omega) hncx hcxm (fun hn b o' e hf => by have := hlb hn b o' e; have := H1.out.ld b hf; omega))
    have C2 := Lib.hid (fun (W : World) (hW : IsRef W g D) => ref4.append_any g D o.n lx W hW H1.out.good (by omega) (by omega))
    have HGood := Lib.hid (H1.out.good.app (f := o.n) (by omega) hYx)
    have hnear := DS.Near.app D o.n lx
    have hpow := app_powers D o.n lx
    unfold DS.Near at hnear
    have HN := Lib.hid (open_near (D.appS o.n lx) HGood.out (by omega))
    have hs0 := hS y0.drew (fun _ _ _ _ => rfl) (Nat.le_refl _)
    generalize strOfNums lx = T at *
    clear hS hO1 hcvf hlow c1' hRx hb2 hp2
    go_upto_region 16 with (fail)
    refine tail.region (S := fun wq => (wq.cell? ⟨q, 0, none⟩ = some (.pointer (some ⟨a, 0, none⟩)) ∧ wq.cell? ⟨q, 1, none⟩ = some (.pointer (some ⟨g, 0, none⟩))) ∧ wq.cell? ⟨go, 1, none⟩ = some (.int .i64 o.n) ∧ (convert 35 9 (.slice Ab nb cb)).run Try.prog wq = .ok (.string T) wq) [20, 21, 22] (by kernel_rfl) hs0 (fun hHeld => ?_)
    clear hs0
    refine tail.take (i := 0) (oi := { dst := some 66, op := Go.Op.move (Go.Operand.tmp 0), type := 25, pos := "law.go:102", after := #[], guard := none }) (v := ?v_0_1) rfl (by kernel_rfl) (by kernel_rfl) (by kernel_rfl) (fun _ _ _ h => h) (Or.inl ⟨by rfl, ?y_0_1⟩) (by assumption) (by kernel_rfl) (by kernel_rfl) ?_
    case y_0_1 => (intro wq hSw; (try dsimp only at hSw); go_simp; first | done | with_reducible rfl)
    try simp only [Act.put, List.setIfInBounds_toArray, List.set_cons_zero, List.set_cons_succ]
    refine tail.take (i := 1) (oi := { dst := some 67, op := Go.Op.nilCheck (Go.Operand.tmp 66), type := 0, pos := "law.go:102", after := #[{ on := 0, ground := Go.Ground.data }], guard := none }) (v := ?v_1_1) rfl (by kernel_rfl) (by kernel_rfl) (by kernel_rfl) (fun _ _ _ h => h) (Or.inl ⟨by rfl, ?y_1_1⟩) (by assumption) (by kernel_rfl) (by kernel_rfl) ?_
    case y_1_1 => (intro wq hSw; (try dsimp only at hSw); go_simp; first | done | with_reducible rfl)
    try simp only [Act.put, List.setIfInBounds_toArray, List.set_cons_zero, List.set_cons_succ]
    refine tail.take (i := 2) (oi := { dst := some 68, op := Go.Op.fieldAddr 33 (Go.Operand.tmp 67) 0, type := 0, pos := "law.go:102", after := #[{ on := 1, ground := Go.Ground.data }], guard := none }) (v := ?v_2_1) rfl (by kernel_rfl) (by kernel_rfl) (by kernel_rfl) (fun _ _ _ h => h) (Or.inl ⟨by rfl, ?y_2_1⟩) (by assumption) (by kernel_rfl) (by kernel_rfl) ?_
    case y_2_1 => (intro wq hSw; (try dsimp only at hSw); go_simp; first | done | with_reducible rfl)
    try simp only [Act.put, List.setIfInBounds_toArray, List.set_cons_zero, List.set_cons_succ]
    refine tail.take (i := 3) (oi := { dst := some 69, op := Go.Op.load 26 (Go.Operand.tmp 68), type := 26, pos := "law.go:102", after := #[{ on := 2, ground := Go.Ground.data }], guard := none }) (v := ?v_3_1) rfl (by kernel_rfl) (by kernel_rfl) (by kernel_rfl) (fun _ _ _ h => h) (Or.inl ⟨by rfl, ?y_3_1⟩) (by assumption) (by kernel_rfl) (by kernel_rfl) ?_
    case y_3_1 => (intro wq hSw; (try dsimp only at hSw); go_simp; first | done | with_reducible rfl)
    try simp only [Act.put, List.setIfInBounds_toArray, List.set_cons_zero, List.set_cons_succ]
    refine tail.take (i := 4) (oi := { dst := some 70, op := Go.Op.fieldAddr 39 (Go.Operand.tmp 3) 1, type := 0, pos := "law.go:102", after := #[], guard := none }) (v := ?v_4_1) rfl (by kernel_rfl) (by kernel_rfl) (by kernel_rfl) (fun _ _ _ h => h) (Or.inl ⟨by rfl, ?y_4_1⟩) (by assumption) (by kernel_rfl) (by kernel_rfl) ?_
    case y_4_1 => (intro wq hSw; (try dsimp only at hSw); go_simp; first | done | with_reducible rfl)
    try simp only [Act.put, List.setIfInBounds_toArray, List.set_cons_zero, List.set_cons_succ]
    refine tail.take (i := 5) (oi := { dst := some 71, op := Go.Op.load 3 (Go.Operand.tmp 70), type := 3, pos := "law.go:102", after := #[{ on := 4, ground := Go.Ground.data }], guard := none }) (v := ?v_5_1) rfl (by kernel_rfl) (by kernel_rfl) (by kernel_rfl) (fun _ _ _ h => h) (Or.inl ⟨by rfl, ?y_5_1⟩) (by assumption) (by kernel_rfl) (by kernel_rfl) ?_
    case y_5_1 => (intro wq hSw; (try dsimp only at hSw); go_simp; first | done | with_reducible rfl)
    try simp only [Act.put, List.setIfInBounds_toArray, List.set_cons_zero, List.set_cons_succ]
    refine tail.take (i := 6) (oi := { dst := some 72, op := Go.Op.move (Go.Operand.tmp 5), type := 35, pos := "law.go:102", after := #[], guard := none }) (v := ?v_6_1) rfl (by kernel_rfl) (by kernel_rfl) (by kernel_rfl) (fun _ _ _ h => h) (Or.inl ⟨by rfl, ?y_6_1⟩) (by assumption) (by kernel_rfl) (by kernel_rfl) ?_
    case y_6_1 => (intro wq hSw; (try dsimp only at hSw); go_simp; first | done | with_reducible rfl)
    try simp only [Act.put, List.setIfInBounds_toArray, List.set_cons_zero, List.set_cons_succ]
    refine tail.take (i := 8) (oi := { dst := some 74, op := Go.Op.move (Go.Operand.tmp 0), type := 25, pos := "law.go:102", after := #[], guard := none }) (v := ?v_8_1) rfl (by kernel_rfl) (by kernel_rfl) (by kernel_rfl) (fun _ _ _ h => h) (Or.inl ⟨by rfl, ?y_8_1⟩) (by assumption) (by kernel_rfl) (by kernel_rfl) ?_
    case y_8_1 => (intro wq hSw; (try dsimp only at hSw); go_simp; first | done | with_reducible rfl)
    try simp only [Act.put, List.setIfInBounds_toArray, List.set_cons_zero, List.set_cons_succ]
    refine tail.take (i := 9) (oi := { dst := some 75, op := Go.Op.nilCheck (Go.Operand.tmp 74), type := 0, pos := "law.go:102", after := #[{ on := 8, ground := Go.Ground.data }], guard := none }) (v := ?v_9_1) rfl (by kernel_rfl) (by kernel_rfl) (by kernel_rfl) (fun _ _ _ h => h) (Or.inl ⟨by rfl, ?y_9_1⟩) (by assumption) (by kernel_rfl) (by kernel_rfl) ?_
    case y_9_1 => (intro wq hSw; (try dsimp only at hSw); go_simp; first | done | with_reducible rfl)
    try simp only [Act.put, List.setIfInBounds_toArray, List.set_cons_zero, List.set_cons_succ]
    refine tail.take (i := 10) (oi := { dst := some 76, op := Go.Op.fieldAddr 33 (Go.Operand.tmp 75) 1, type := 0, pos := "law.go:102", after := #[{ on := 9, ground := Go.Ground.data }], guard := none }) (v := ?v_10_1) rfl (by kernel_rfl) (by kernel_rfl) (by kernel_rfl) (fun _ _ _ h => h) (Or.inl ⟨by rfl, ?y_10_1⟩) (by assumption) (by kernel_rfl) (by kernel_rfl) ?_
    case y_10_1 => (intro wq hSw; (try dsimp only at hSw); go_simp; first | done | with_reducible rfl)
    try simp only [Act.put, List.setIfInBounds_toArray, List.set_cons_zero, List.set_cons_succ]
    refine tail.take (i := 11) (oi := { dst := some 77, op := Go.Op.load 28 (Go.Operand.tmp 76), type := 28, pos := "law.go:102", after := #[{ on := 10, ground := Go.Ground.data }], guard := none }) (v := ?v_11_1) rfl (by kernel_rfl) (by kernel_rfl) (by kernel_rfl) (fun _ _ _ h => h) (Or.inl ⟨by rfl, ?y_11_1⟩) (by assumption) (by kernel_rfl) (by kernel_rfl) ?_
    case y_11_1 => (intro wq hSw; (try dsimp only at hSw); go_simp; first | done | with_reducible rfl)
    try simp only [Act.put, List.setIfInBounds_toArray, List.set_cons_zero, List.set_cons_succ]
    refine tail.take (i := 12) (oi := { dst := some 78, op := Go.Op.fieldAddr 39 (Go.Operand.tmp 3) 1, type := 0, pos := "law.go:102", after := #[], guard := none }) (v := ?v_12_1) rfl (by kernel_rfl) (by kernel_rfl) (by kernel_rfl) (fun _ _ _ h => h) (Or.inl ⟨by rfl, ?y_12_1⟩) (by assumption) (by kernel_rfl) (by kernel_rfl) ?_
    case y_12_1 => (intro wq hSw; (try dsimp only at hSw); go_simp; first | done | with_reducible rfl)
    try simp only [Act.put, List.setIfInBounds_toArray, List.set_cons_zero, List.set_cons_succ]
    refine tail.take (i := 13) (oi := { dst := some 79, op := Go.Op.load 3 (Go.Operand.tmp 78), type := 3, pos := "law.go:102", after := #[{ on := 12, ground := Go.Ground.data }], guard := none }) (v := ?v_13_1) rfl (by kernel_rfl) (by kernel_rfl) (by kernel_rfl) (fun _ _ _ h => h) (Or.inl ⟨by rfl, ?y_13_1⟩) (by assumption) (by kernel_rfl) (by kernel_rfl) ?_
    case y_13_1 => (intro wq hSw; (try dsimp only at hSw); go_simp; first | done | with_reducible rfl)
    try simp only [Act.put, List.setIfInBounds_toArray, List.set_cons_zero, List.set_cons_succ]
    refine tail.take (i := 14) (oi := { dst := some 80, op := Go.Op.move (Go.Operand.tmp 5), type := 35, pos := "law.go:102", after := #[], guard := none }) (v := ?v_14_1) rfl (by kernel_rfl) (by kernel_rfl) (by kernel_rfl) (fun _ _ _ h => h) (Or.inl ⟨by rfl, ?y_14_1⟩) (by assumption) (by kernel_rfl) (by kernel_rfl) ?_
    case y_14_1 => (intro wq hSw; (try dsimp only at hSw); go_simp; first | done | with_reducible rfl)
    try simp only [Act.put, List.setIfInBounds_toArray, List.set_cons_zero, List.set_cons_succ]
    refine tail.take (i := 15) (oi := { dst := some 81, op := Go.Op.convert 35 9 (Go.Operand.tmp 80), type := 9, pos := "law.go:102", after := #[{ on := 14, ground := Go.Ground.data }], guard := none }) (v := ?v_15_1) rfl (by kernel_rfl) (by kernel_rfl) (by kernel_rfl) (fun _ _ _ h => h) (Or.inl ⟨by rfl, ?y_15_1⟩) (by assumption) (by kernel_rfl) (by kernel_rfl) ?_
    case y_15_1 => (intro wq hSw; (try dsimp only at hSw); go_simp; first | done | with_reducible rfl)
    try simp only [Act.put, List.setIfInBounds_toArray, List.set_cons_zero, List.set_cons_succ]
    refine tail.next (i := 7) (o := { dst := some 73, op := Go.Op.call { callee := Go.Callee.value (Go.Operand.func 31), args := #[Go.Operand.tmp 69, Go.Operand.tmp 71, Go.Operand.tmp 72], argTypes := #[26, 3, 35] }, type := 41, pos := "law.go:102", after := #[{ on := 3, ground := Go.Ground.data }, { on := 5, ground := Go.Ground.data }, { on := 6, ground := Go.Ground.data }], guard := none }) rfl (by kernel_rfl) (fun KQ hKQ => ?_)
    go_simp
    refine C1.out.mono ?_
    rintro e y1 ⟨fd1, rfl, hI1, hc1⟩
    have hqy := HQ.out y1 hc1
    have hr1 := HR.out y1 hc1
    have C4 := Lib.hid (C2.out y1 hr1)
    clear C1 C2
    go_wp2_with fail
    refine hKQ.out _ _ ?s_7 ?_
    case s_7 => exact .inr hqy
    clear hKQ KQ
    try simp only [Act.put, List.setIfInBounds_toArray, List.set_cons_zero, List.set_cons_succ]
    refine tail.next (i := 16) (o := { dst := some 82, op := Go.Op.call { callee := Go.Callee.value (Go.Operand.func 36), args := #[Go.Operand.tmp 77, Go.Operand.tmp 79, Go.Operand.tmp 81], argTypes := #[28, 3, 9] }, type := 41, pos := "law.go:102", after := #[{ on := 11, ground := Go.Ground.data }, { on := 13, ground := Go.Ground.data }, { on := 15, ground := Go.Ground.data }, { on := 7, ground := Go.Ground.chain }], guard := none }) rfl (by kernel_rfl) (fun KQ hKQ => ?_)
    go_simp
    refine C4.out.mono ?_
    rintro e y2 ⟨rfl, hr2, hG2⟩
    have hqz := HQ2.out y1 y2 hc1 hG2
    obtain ⟨⟨lab', hb, _⟩, hbel⟩ := H1.out.turned HP2.out hB2 hI1 hc1 hr2 hG2 HGood.out
    have C5 := Lib.hid (open2_any y2 B q a g _ fd1 pw px lab' hb (Nat.le_trans hB2 hbel.size) (by omega) (by omega))
    have HBe := Lib.hid hbel
    clear C4 hb hbel hI1 hr1 hr2
    go_wp2_with fail
    refine hKQ.out _ _ ?s_16 ?_
    case s_16 => exact .inr hqz
    clear hKQ KQ
    try simp only [Act.put, List.setIfInBounds_toArray, List.set_cons_zero, List.set_cons_succ]
    refine tail.take (i := 17) (oi := { dst := some 83, op := Go.Op.binOp Go.BinOp.eql 41 (Go.Operand.tmp 73) (Go.Operand.tmp 82) 41, type := 4, pos := "law.go:102", after := #[{ on := 7, ground := Go.Ground.data }, { on := 16, ground := Go.Ground.data }], guard := none }) (v := ?v_17_1) rfl (by kernel_rfl) (by kernel_rfl) (by kernel_rfl) (fun _ _ _ h => h) (Or.inl ⟨by rfl, ?y_17_1⟩) (by assumption) (by kernel_rfl) (by kernel_rfl) ?_
    case y_17_1 => (intro wq hSw; (try dsimp only at hSw); go_simp; first | done | with_reducible rfl)
    try simp only [Act.put, List.setIfInBounds_toArray, List.set_cons_zero, List.set_cons_succ]
    refine tail.take (i := 18) (oi := { dst := some 84, op := Go.Op.move (Go.Operand.tmp 83), type := 4, pos := "law.go:102", after := #[{ on := 17, ground := Go.Ground.data }, { on := 16, ground := Go.Ground.chain }], guard := none }) (v := ?v_18_1) rfl (by kernel_rfl) (by kernel_rfl) (by kernel_rfl) (fun _ _ _ h => h) (Or.inl ⟨by rfl, ?y_18_1⟩) (by assumption) (by kernel_rfl) (by kernel_rfl) ?_
    case y_18_1 => (intro wq hSw; (try dsimp only at hSw); go_simp; first | done | with_reducible rfl)
    try simp only [Act.put, List.setIfInBounds_toArray, List.set_cons_zero, List.set_cons_succ]
    refine tail.take (i := 19) (oi := { dst := some 85, op := Go.Op.move (Go.Operand.tmp 0), type := 25, pos := "law.go:102", after := #[{ on := 18, ground := Go.Ground.guard }], guard := some (18, true) }) (v := ?v_19_1) rfl (by kernel_rfl) (by kernel_rfl) (by kernel_rfl) (fun _ _ _ h => h) (Or.inl ⟨by rfl, ?y_19_1⟩) (by assumption) (by kernel_rfl) (by kernel_rfl) ?_
    case y_19_1 => (intro wq hSw; (try dsimp only at hSw); go_simp; first | done | with_reducible rfl)
    try simp only [Act.put, List.setIfInBounds_toArray, List.set_cons_zero, List.set_cons_succ]
    refine tail.next (i := 20) (o := { dst := some 86, op := Go.Op.call { callee := Go.Callee.value (Go.Operand.func 13), args := #[Go.Operand.tmp 85], argTypes := #[25] }, type := 4, pos := "law.go:102", after := #[{ on := 19, ground := Go.Ground.data }, { on := 18, ground := Go.Ground.chain }, { on := 18, ground := Go.Ground.guard }], guard := some (18, true) }) rfl (by kernel_rfl) (fun KQ hKQ => ?_)
    go_simp
    refine C5.out.mono ?_
    rintro e y3 ⟨rfl, fd3, pw3, px3, lab3, hb3, hp3, hB3⟩
    have HE := Lib.hid (And.intro hb3 (And.intro hp3 hB3))
    clear C5 hb3 hp3 hB3
    go_wp2_with fail
    refine hKQ.out _ _ ?s_20 ?_
    case s_20 => exact .inl (by decide)
    clear hKQ KQ
    try simp only [Act.put, List.setIfInBounds_toArray, List.set_cons_zero, List.set_cons_succ]
    refine tail.next (i := 21) (o := { dst := some 87, op := Go.Op.pick (Go.Operand.tmp 84) (Go.Operand.tmp 86) (Go.Operand.const (Go.Value.bool false)), type := 4, pos := "law.go:102", after := #[{ on := 18, ground := Go.Ground.data }, { on := 20, ground := Go.Ground.data }], guard := none }) rfl (by kernel_rfl) (fun KQ hKQ => ?_)
    go_simp
    refine hKQ.out _ _ ?s_21 ?_
    case s_21 => exact .inl (by decide)
    clear hKQ KQ
    try simp only [Act.put, List.setIfInBounds_toArray, List.set_cons_zero, List.set_cons_succ]
    refine tail.next (i := 22) (o := { dst := some 4, op := Go.Op.assign (Go.Operand.tmp 87), type := 4, pos := "law.go:102", after := #[{ on := 21, ground := Go.Ground.data }, { on := 20, ground := Go.Ground.chain }, { on := 0, ground := Go.Ground.phase }, { on := 1, ground := Go.Ground.phase }, { on := 2, ground := Go.Ground.phase }, { on := 3, ground := Go.Ground.phase }, { on := 4, ground := Go.Ground.phase }, { on := 5, ground := Go.Ground.phase }, { on := 6, ground := Go.Ground.phase }, { on := 7, ground := Go.Ground.phase }, { on := 8, ground := Go.Ground.phase }, { on := 9, ground := Go.Ground.phase }, { on := 10, ground := Go.Ground.phase }, { on := 11, ground := Go.Ground.phase }, { on := 12, ground := Go.Ground.phase }, { on := 13, ground := Go.Ground.phase }, { on := 14, ground := Go.Ground.phase }, { on := 15, ground := Go.Ground.phase }, { on := 16, ground := Go.Ground.phase }, { on := 17, ground := Go.Ground.phase }, { on := 18, ground := Go.Ground.phase }, { on := 19, ground := Go.Ground.phase }, { on := 20, ground := Go.Ground.phase }, { on := 21, ground := Go.Ground.phase }], guard := none }) rfl (by kernel_rfl) (fun KQ hKQ => ?_)
    go_simp
    refine hKQ.out _ _ ?s_22 ?_
    case s_22 => exact .inl (by decide)
    clear hKQ KQ
    try simp only [Act.put, List.setIfInBounds_toArray, List.set_cons_zero, List.set_cons_succ]
    refine tail.done (by kernel_rfl) ?_ _
    go_wp2_with fail
    go_ret
    exact ⟨by simp, _, _, _, _, lab3, HE.out.1, HE.out.2.1, (hB02.drew.trans HBe.out).trans HE.out.2.2, by have := HN.out.2.1; omega, by have := HN.out.2.2; omega⟩
  · rw [hmade] at c2 HBk
    generalize (fun k => if w1.heap.size ≤ k then 0 else lab k) = lab1 at *
    have CPt := Lib.hid (ref3.put3_any none 0 0 [] Ab nb cb o.b w1 (Rd.nil _ _ _) (hRb.more hB1) ho.b (by omega) (by omega) hbc hbm)
    clear c0 c4 c5 hv1
    go_wp2_with fail
    refine CPt.out.mono ?_
    clear CPt
    rintro e y0 ⟨Ax, cx, rfl, hlx0, hOx, hX⟩
    rw [List.nil_append] at hlx0 hOx
    obtain ⟨nx, hnx⟩ : ∃ nx, 0 + (8 + nb) = nx := ⟨_, rfl⟩
    rw [hnx] at hlx0 hOx
    have hb2 := hb0.below hX
    have hp2 := hp0.below hb0 hX
    have hlb : 0 < nx → ∀ b o', Ax = some ⟨b, o', none⟩ → lab1 b = 0 := fun hn b o' e => by
      obtain ⟨g0, e2, hg0⟩ := hOx.form hn
      rw [e] at e2
      simp only [Option.some.injEq, Addr.mk.injEq, and_true] at e2
      obtain ⟨rfl, -⟩ := e2
      exact hnl b hg0
    have hRx := hOx.rd hlx0
    have hYx := recB_byt ho.b
    have hcaps := hOx.caps hlx0
    have hncx := hcaps.1
    have hcxm := hcaps.2
    have c1' : y0.drew.cell? ⟨go, 1, none⟩ = some (.int .i64 o.n) := (hX.cell (p := ⟨go, 1, none⟩) hgo1).trans c1
    have hgo3 : go < y0.drew.heap.size := Nat.lt_of_lt_of_le hgo1 hX.size
    have hB2 : B ≤ y0.drew.heap.size := Nat.le_trans hB1 hX.size
    have hB02 : Below B w y0 := hB0.trans (hX.mono hB1)
    generalize recB o.b = lx at *
    clear c1 c2 c3 q0 q1 hb0 hp0 hRb hOx hX hcaps
    rw [hnx]
    have HP2 := Lib.hid (hp2.same (w' := y0.drew) (Nat.le_refl _) (hb2.same (w' := y0.drew) (fun _ _ _ => rfl)).r (fun _ _ _ => rfl))
    have H1 := Lib.hid (hb2.same (w' := y0.drew) (fun _ _ _ => rfl))
    have hlx : lx.length = nx := hRx.len
    have hlow : ∀ W : World, (∀ k, lab1 k ≠ 1 → lab1 k ≠ 2 → k < y0.drew.heap.size → W.heap[k]? = y0.drew.heap[k]?) → y0.drew.heap.size ≤ W.heap.size → Rd W W.heap.size Ax nx lx := fun W hW hsz => ⟨hlx, fun hn => by
      obtain ⟨b, o', e, hb, hc⟩ := hRx.2 hn
      refine ⟨b, o', e, Nat.lt_of_lt_of_le hb hsz, fun j hj => ?_⟩
      have h0 := hlb hn b o' e
      rw [World.cell?_of_block (a := ⟨b, o' + j, none⟩) (hW b (by omega) (by omega) hb)]
      exact hc j hj⟩
    have hcvf := fun (wq : World) (hq : Rd wq wq.heap.size Ax nx lx) => run_string_rd (P := Try.prog) wq 35 5 9 Try.underlying35 Try.underlying5 Try.underlying9 wq.heap.size Ax nx cx lx hq
    have hS : ∀ W : World, (∀ k, lab1 k ≠ 1 → lab1 k ≠ 2 → k < y0.drew.heap.size → W.heap[k]? = y0.drew.heap[k]?) → y0.drew.heap.size ≤ W.heap.size → (W.cell? ⟨q, 0, none⟩ = some (.pointer (some ⟨a, 0, none⟩)) ∧ W.cell? ⟨q, 1, none⟩ = some (.pointer (some ⟨g, 0, none⟩))) ∧ W.cell? ⟨go, 1, none⟩ = some (.int .i64 o.n) ∧ (convert 35 9 (.slice Ax nx cx)).run Try.prog W = .ok (.string (strOfNums lx)) W := fun W hW hsz => by
      have h5 := H1.out.lq
      have hk := hW q (by omega) (by omega) H1.out.qb.lt
      have hko := hW go (by omega) (by omega) hgo3
      rw [World.cell?_of_block (a := ⟨q, 0, none⟩) hk, World.cell?_of_block (a := ⟨q, 1, none⟩) hk, World.cell?_of_block (a := ⟨go, 1, none⟩) hko]
      exact ⟨⟨H1.out.qb.cell 0, H1.out.qb.cell 1⟩, c1', hcvf W (hlow W hW hsz)⟩
    have hO1 : ∀ (y1 : World) {f' : Nat → Prop}, disk.Chg fd f' y0.drew y1 → ∀ k, lab1 k ≠ 1 → lab1 k ≠ 2 → k < y0.drew.heap.size → y1.heap[k]? = y0.drew.heap[k]? := fun y1 f' hC k h1 h2 hk => hC.block k hk (fun hf => h1 (H1.out.ld k hf))
    have HQ := Lib.hid (fun (y1 : World) {f' : Nat → Prop} (hC : disk.Chg fd f' y0.drew y1) => hS y1 (hO1 y1 hC) hC.size)
    have HR := Lib.hid (fun (y1 : World) {f' : Nat → Prop} (hC : disk.Chg fd f' y0.drew y1) => show IsRef y1 g D from H1.out.r.keep (hC.block g H1.out.r.lt (fun hf => by have h1 := H1.out.ld g hf; have h2 := H1.out.lg; omega)))
    have HQ2 := Lib.hid (fun (y1 y2 : World) {f' : Nat → Prop} (hC : disk.Chg fd f' y0.drew y1) (hG : y1.grownBy y2 (some g)) => hS y2 (fun k h1 h2 hk => by
      rw [hG.block k (Nat.lt_of_lt_of_le hk hC.size) (by intro e; exact h2 (by rw [Option.some.inj e]; exact H1.out.lg))]
      exact hO1 y1 hC k h1 h2 hk) (Nat.le_trans hC.size hG.size))
    have C1 := Lib.hid (disk.append_any a D fd y0.drew H1.out.d H1.out.good (by omega) (by omega) o.n Ax nx cx lx (hlow y0.drew (fun _ _ _ _ => rfl) (Nat.le_refl _)) hYx (by omega) hncx hcxm (fun hn b o' e hf => by have := hlb hn b o' e; have := H1.out.ld b hf; omega))
    have C2 := Lib.hid (fun (W : World) (hW : IsRef W g D) => ref4.append_any g D o.n lx W hW H1.out.good (by omega) (by omega))
    have HGood := Lib.hid (H1.out.good.app (f := o.n) (by omega) hYx)
    have hnear := DS.Near.app D o.n lx
    have hpow := app_powers D o.n lx
    unfold DS.Near at hnear
    have HN := Lib.hid (open_near (D.appS o.n lx) HGood.out (by omega))
    have hs0 := hS y0.drew (fun _ _ _ _ => rfl) (Nat.le_refl _)
    generalize strOfNums lx = T at *
    clear hS hO1 hcvf hlow c1' hRx hb2 hp2
    go_upto_region 16 with (fail)
    refine tail.region (S := fun wq => (wq.cell? ⟨q, 0, none⟩ = some (.pointer (some ⟨a, 0, none⟩)) ∧ wq.cell? ⟨q, 1, none⟩ = some (.pointer (some ⟨g, 0, none⟩))) ∧ wq.cell? ⟨go, 1, none⟩ = some (.int .i64 o.n) ∧ (convert 35 9 (.slice Ax nx cx)).run Try.prog wq = .ok (.string T) wq) [20, 21, 22] (by kernel_rfl) hs0 (fun hHeld => ?_)
    clear hs0
    refine tail.take (i := 0) (oi := { dst := some 66, op := Go.Op.move (Go.Operand.tmp 0), type := 25, pos := "law.go:102", after := #[], guard := none }) (v := ?v_0_2) rfl (by kernel_rfl) (by kernel_rfl) (by kernel_rfl) (fun _ _ _ h => h) (Or.inl ⟨by rfl, ?y_0_2⟩) (by assumption) (by kernel_rfl) (by kernel_rfl) ?_
    case y_0_2 => (intro wq hSw; (try dsimp only at hSw); go_simp; first | done | with_reducible rfl)
    try simp only [Act.put, List.setIfInBounds_toArray, List.set_cons_zero, List.set_cons_succ]
    refine tail.take (i := 1) (oi := { dst := some 67, op := Go.Op.nilCheck (Go.Operand.tmp 66), type := 0, pos := "law.go:102", after := #[{ on := 0, ground := Go.Ground.data }], guard := none }) (v := ?v_1_2) rfl (by kernel_rfl) (by kernel_rfl) (by kernel_rfl) (fun _ _ _ h => h) (Or.inl ⟨by rfl, ?y_1_2⟩) (by assumption) (by kernel_rfl) (by kernel_rfl) ?_
    case y_1_2 => (intro wq hSw; (try dsimp only at hSw); go_simp; first | done | with_reducible rfl)
    try simp only [Act.put, List.setIfInBounds_toArray, List.set_cons_zero, List.set_cons_succ]
    refine tail.take (i := 2) (oi := { dst := some 68, op := Go.Op.fieldAddr 33 (Go.Operand.tmp 67) 0, type := 0, pos := "law.go:102", after := #[{ on := 1, ground := Go.Ground.data }], guard := none }) (v := ?v_2_2) rfl (by kernel_rfl) (by kernel_rfl) (by kernel_rfl) (fun _ _ _ h => h) (Or.inl ⟨by rfl, ?y_2_2⟩) (by assumption) (by kernel_rfl) (by kernel_rfl) ?_
    case y_2_2 => (intro wq hSw; (try dsimp only at hSw); go_simp; first | done | with_reducible rfl)
    try simp only [Act.put, List.setIfInBounds_toArray, List.set_cons_zero, List.set_cons_succ]
    refine tail.take (i := 3) (oi := { dst := some 69, op := Go.Op.load 26 (Go.Operand.tmp 68), type := 26, pos := "law.go:102", after := #[{ on := 2, ground := Go.Ground.data }], guard := none }) (v := ?v_3_2) rfl (by kernel_rfl) (by kernel_rfl) (by kernel_rfl) (fun _ _ _ h => h) (Or.inl ⟨by rfl, ?y_3_2⟩) (by assumption) (by kernel_rfl) (by kernel_rfl) ?_
    case y_3_2 => (intro wq hSw; (try dsimp only at hSw); go_simp; first | done | with_reducible rfl)
    try simp only [Act.put, List.setIfInBounds_toArray, List.set_cons_zero, List.set_cons_succ]
    refine tail.take (i := 4) (oi := { dst := some 70, op := Go.Op.fieldAddr 39 (Go.Operand.tmp 3) 1, type := 0, pos := "law.go:102", after := #[], guard := none }) (v := ?v_4_2) rfl (by kernel_rfl) (by kernel_rfl) (by kernel_rfl) (fun _ _ _ h => h) (Or.inl ⟨by rfl, ?y_4_2⟩) (by assumption) (by kernel_rfl) (by kernel_rfl) ?_
    case y_4_2 => (intro wq hSw; (try dsimp only at hSw); go_simp; first | done | with_reducible rfl)
    try simp only [Act.put, List.setIfInBounds_toArray, List.set_cons_zero, List.set_cons_succ]
    refine tail.take (i := 5) (oi := { dst := some 71, op := Go.Op.load 3 (Go.Operand.tmp 70), type := 3, pos := "law.go:102", after := #[{ on := 4, ground := Go.Ground.data }], guard := none }) (v := ?v_5_2) rfl (by kernel_rfl) (by kernel_rfl) (by kernel_rfl) (fun _ _ _ h => h) (Or.inl ⟨by rfl, ?y_5_2⟩) (by assumption) (by kernel_rfl) (by kernel_rfl) ?_
    case y_5_2 => (intro wq hSw; (try dsimp only at hSw); go_simp; first | done | with_reducible rfl)
    try simp only [Act.put, List.setIfInBounds_toArray, List.set_cons_zero, List.set_cons_succ]
    refine tail.take (i := 6) (oi := { dst := some 72, op := Go.Op.move (Go.Operand.tmp 5), type := 35, pos := "law.go:102", after := #[], guard := none }) (v := ?v_6_2) rfl (by kernel_rfl) (by kernel_rfl) (by kernel_rfl) (fun _ _ _ h => h) (Or.inl ⟨by rfl, ?y_6_2⟩) (by assumption) (by kernel_rfl) (by kernel_rfl) ?_
    case y_6_2 => (intro wq hSw; (try dsimp only at hSw); go_simp; first | done | with_reducible rfl)
    try simp only [Act.put, List.setIfInBounds_toArray, List.set_cons_zero, List.set_cons_succ]
    refine tail.take (i := 8) (oi := { dst := some 74, op := Go.Op.move (Go.Operand.tmp 0), type := 25, pos := "law.go:102", after := #[], guard := none }) (v := ?v_8_2) rfl (by kernel_rfl) (by kernel_rfl) (by kernel_rfl) (fun _ _ _ h => h) (Or.inl ⟨by rfl, ?y_8_2⟩) (by assumption) (by kernel_rfl) (by kernel_rfl) ?_
    case y_8_2 => (intro wq hSw; (try dsimp only at hSw); go_simp; first | done | with_reducible rfl)
    try simp only [Act.put, List.setIfInBounds_toArray, List.set_cons_zero, List.set_cons_succ]
    refine tail.take (i := 9) (oi := { dst := some 75, op := Go.Op.nilCheck (Go.Operand.tmp 74), type := 0, pos := "law.go:102", after := #[{ on := 8, ground := Go.Ground.data }], guard := none }) (v := ?v_9_2) rfl (by kernel_rfl) (by kernel_rfl) (by kernel_rfl) (fun _ _ _ h => h) (Or.inl ⟨by rfl, ?y_9_2⟩) (by assumption) (by kernel_rfl) (by kernel_rfl) ?_
    case y_9_2 => (intro wq hSw; (try dsimp only at hSw); go_simp; first | done | with_reducible rfl)
    try simp only [Act.put, List.setIfInBounds_toArray, List.set_cons_zero, List.set_cons_succ]
    refine tail.take (i := 10) (oi := { dst := some 76, op := Go.Op.fieldAddr 33 (Go.Operand.tmp 75) 1, type := 0, pos := "law.go:102", after := #[{ on := 9, ground := Go.Ground.data }], guard := none }) (v := ?v_10_2) rfl (by kernel_rfl) (by kernel_rfl) (by kernel_rfl) (fun _ _ _ h => h) (Or.inl ⟨by rfl, ?y_10_2⟩) (by assumption) (by kernel_rfl) (by kernel_rfl) ?_
    case y_10_2 => (intro wq hSw; (try dsimp only at hSw); go_simp; first | done | with_reducible rfl)
    try simp only [Act.put, List.setIfInBounds_toArray, List.set_cons_zero, List.set_cons_succ]
    refine tail.take (i := 11) (oi := { dst := some 77, op := Go.Op.load 28 (Go.Operand.tmp 76), type := 28, pos := "law.go:102", after := #[{ on := 10, ground := Go.Ground.data }], guard := none }) (v := ?v_11_2) rfl (by kernel_rfl) (by kernel_rfl) (by kernel_rfl) (fun _ _ _ h => h) (Or.inl ⟨by rfl, ?y_11_2⟩) (by assumption) (by kernel_rfl) (by kernel_rfl) ?_
    case y_11_2 => (intro wq hSw; (try dsimp only at hSw); go_simp; first | done | with_reducible rfl)
    try simp only [Act.put, List.setIfInBounds_toArray, List.set_cons_zero, List.set_cons_succ]
    refine tail.take (i := 12) (oi := { dst := some 78, op := Go.Op.fieldAddr 39 (Go.Operand.tmp 3) 1, type := 0, pos := "law.go:102", after := #[], guard := none }) (v := ?v_12_2) rfl (by kernel_rfl) (by kernel_rfl) (by kernel_rfl) (fun _ _ _ h => h) (Or.inl ⟨by rfl, ?y_12_2⟩) (by assumption) (by kernel_rfl) (by kernel_rfl) ?_
    case y_12_2 => (intro wq hSw; (try dsimp only at hSw); go_simp; first | done | with_reducible rfl)
    try simp only [Act.put, List.setIfInBounds_toArray, List.set_cons_zero, List.set_cons_succ]
    refine tail.take (i := 13) (oi := { dst := some 79, op := Go.Op.load 3 (Go.Operand.tmp 78), type := 3, pos := "law.go:102", after := #[{ on := 12, ground := Go.Ground.data }], guard := none }) (v := ?v_13_2) rfl (by kernel_rfl) (by kernel_rfl) (by kernel_rfl) (fun _ _ _ h => h) (Or.inl ⟨by rfl, ?y_13_2⟩) (by assumption) (by kernel_rfl) (by kernel_rfl) ?_
    case y_13_2 => (intro wq hSw; (try dsimp only at hSw); go_simp; first | done | with_reducible rfl)
    try simp only [Act.put, List.setIfInBounds_toArray, List.set_cons_zero, List.set_cons_succ]
    refine tail.take (i := 14) (oi := { dst := some 80, op := Go.Op.move (Go.Operand.tmp 5), type := 35, pos := "law.go:102", after := #[], guard := none }) (v := ?v_14_2) rfl (by kernel_rfl) (by kernel_rfl) (by kernel_rfl) (fun _ _ _ h => h) (Or.inl ⟨by rfl, ?y_14_2⟩) (by assumption) (by kernel_rfl) (by kernel_rfl) ?_
    case y_14_2 => (intro wq hSw; (try dsimp only at hSw); go_simp; first | done | with_reducible rfl)
    try simp only [Act.put, List.setIfInBounds_toArray, List.set_cons_zero, List.set_cons_succ]
    refine tail.take (i := 15) (oi := { dst := some 81, op := Go.Op.convert 35 9 (Go.Operand.tmp 80), type := 9, pos := "law.go:102", after := #[{ on := 14, ground := Go.Ground.data }], guard := none }) (v := ?v_15_2) rfl (by kernel_rfl) (by kernel_rfl) (by kernel_rfl) (fun _ _ _ h => h) (Or.inl ⟨by rfl, ?y_15_2⟩) (by assumption) (by kernel_rfl) (by kernel_rfl) ?_
    case y_15_2 => (intro wq hSw; (try dsimp only at hSw); go_simp; first | done | with_reducible rfl)
    try simp only [Act.put, List.setIfInBounds_toArray, List.set_cons_zero, List.set_cons_succ]
    refine tail.next (i := 7) (o := { dst := some 73, op := Go.Op.call { callee := Go.Callee.value (Go.Operand.func 31), args := #[Go.Operand.tmp 69, Go.Operand.tmp 71, Go.Operand.tmp 72], argTypes := #[26, 3, 35] }, type := 41, pos := "law.go:102", after := #[{ on := 3, ground := Go.Ground.data }, { on := 5, ground := Go.Ground.data }, { on := 6, ground := Go.Ground.data }], guard := none }) rfl (by kernel_rfl) (fun KQ hKQ => ?_)
    go_simp
    refine C1.out.mono ?_
    rintro e y1 ⟨fd1, rfl, hI1, hc1⟩
    have hqy := HQ.out y1 hc1
    have hr1 := HR.out y1 hc1
    have C4 := Lib.hid (C2.out y1 hr1)
    clear C1 C2
    go_wp2_with fail
    refine hKQ.out _ _ ?s_7 ?_
    case s_7 => exact .inr hqy
    clear hKQ KQ
    try simp only [Act.put, List.setIfInBounds_toArray, List.set_cons_zero, List.set_cons_succ]
    refine tail.next (i := 16) (o := { dst := some 82, op := Go.Op.call { callee := Go.Callee.value (Go.Operand.func 36), args := #[Go.Operand.tmp 77, Go.Operand.tmp 79, Go.Operand.tmp 81], argTypes := #[28, 3, 9] }, type := 41, pos := "law.go:102", after := #[{ on := 11, ground := Go.Ground.data }, { on := 13, ground := Go.Ground.data }, { on := 15, ground := Go.Ground.data }, { on := 7, ground := Go.Ground.chain }], guard := none }) rfl (by kernel_rfl) (fun KQ hKQ => ?_)
    go_simp
    refine C4.out.mono ?_
    rintro e y2 ⟨rfl, hr2, hG2⟩
    have hqz := HQ2.out y1 y2 hc1 hG2
    obtain ⟨⟨lab', hb, _⟩, hbel⟩ := H1.out.turned HP2.out hB2 hI1 hc1 hr2 hG2 HGood.out
    have C5 := Lib.hid (open2_any y2 B q a g _ fd1 pw px lab' hb (Nat.le_trans hB2 hbel.size) (by omega) (by omega))
    have HBe := Lib.hid hbel
    clear C4 hb hbel hI1 hr1 hr2
    go_wp2_with fail
    refine hKQ.out _ _ ?s_16 ?_
    case s_16 => exact .inr hqz
    clear hKQ KQ
    try simp only [Act.put, List.setIfInBounds_toArray, List.set_cons_zero, List.set_cons_succ]
    refine tail.take (i := 17) (oi := { dst := some 83, op := Go.Op.binOp Go.BinOp.eql 41 (Go.Operand.tmp 73) (Go.Operand.tmp 82) 41, type := 4, pos := "law.go:102", after := #[{ on := 7, ground := Go.Ground.data }, { on := 16, ground := Go.Ground.data }], guard := none }) (v := ?v_17_2) rfl (by kernel_rfl) (by kernel_rfl) (by kernel_rfl) (fun _ _ _ h => h) (Or.inl ⟨by rfl, ?y_17_2⟩) (by assumption) (by kernel_rfl) (by kernel_rfl) ?_
    case y_17_2 => (intro wq hSw; (try dsimp only at hSw); go_simp; first | done | with_reducible rfl)
    try simp only [Act.put, List.setIfInBounds_toArray, List.set_cons_zero, List.set_cons_succ]
    refine tail.take (i := 18) (oi := { dst := some 84, op := Go.Op.move (Go.Operand.tmp 83), type := 4, pos := "law.go:102", after := #[{ on := 17, ground := Go.Ground.data }, { on := 16, ground := Go.Ground.chain }], guard := none }) (v := ?v_18_2) rfl (by kernel_rfl) (by kernel_rfl) (by kernel_rfl) (fun _ _ _ h => h) (Or.inl ⟨by rfl, ?y_18_2⟩) (by assumption) (by kernel_rfl) (by kernel_rfl) ?_
    case y_18_2 => (intro wq hSw; (try dsimp only at hSw); go_simp; first | done | with_reducible rfl)
    try simp only [Act.put, List.setIfInBounds_toArray, List.set_cons_zero, List.set_cons_succ]
    refine tail.take (i := 19) (oi := { dst := some 85, op := Go.Op.move (Go.Operand.tmp 0), type := 25, pos := "law.go:102", after := #[{ on := 18, ground := Go.Ground.guard }], guard := some (18, true) }) (v := ?v_19_2) rfl (by kernel_rfl) (by kernel_rfl) (by kernel_rfl) (fun _ _ _ h => h) (Or.inl ⟨by rfl, ?y_19_2⟩) (by assumption) (by kernel_rfl) (by kernel_rfl) ?_
    case y_19_2 => (intro wq hSw; (try dsimp only at hSw); go_simp; first | done | with_reducible rfl)
    try simp only [Act.put, List.setIfInBounds_toArray, List.set_cons_zero, List.set_cons_succ]
    refine tail.next (i := 20) (o := { dst := some 86, op := Go.Op.call { callee := Go.Callee.value (Go.Operand.func 13), args := #[Go.Operand.tmp 85], argTypes := #[25] }, type := 4, pos := "law.go:102", after := #[{ on := 19, ground := Go.Ground.data }, { on := 18, ground := Go.Ground.chain }, { on := 18, ground := Go.Ground.guard }], guard := some (18, true) }) rfl (by kernel_rfl) (fun KQ hKQ => ?_)
    go_simp
    refine C5.out.mono ?_
    rintro e y3 ⟨rfl, fd3, pw3, px3, lab3, hb3, hp3, hB3⟩
    have HE := Lib.hid (And.intro hb3 (And.intro hp3 hB3))
    clear C5 hb3 hp3 hB3
    go_wp2_with fail
    refine hKQ.out _ _ ?s_20 ?_
    case s_20 => exact .inl (by decide)
    clear hKQ KQ
    try simp only [Act.put, List.setIfInBounds_toArray, List.set_cons_zero, List.set_cons_succ]
    refine tail.next (i := 21) (o := { dst := some 87, op := Go.Op.pick (Go.Operand.tmp 84) (Go.Operand.tmp 86) (Go.Operand.const (Go.Value.bool false)), type := 4, pos := "law.go:102", after := #[{ on := 18, ground := Go.Ground.data }, { on := 20, ground := Go.Ground.data }], guard := none }) rfl (by kernel_rfl) (fun KQ hKQ => ?_)
    go_simp
    refine hKQ.out _ _ ?s_21 ?_
    case s_21 => exact .inl (by decide)
    clear hKQ KQ
    try simp only [Act.put, List.setIfInBounds_toArray, List.set_cons_zero, List.set_cons_succ]
    refine tail.next (i := 22) (o := { dst := some 4, op := Go.Op.assign (Go.Operand.tmp 87), type := 4, pos := "law.go:102", after := #[{ on := 21, ground := Go.Ground.data }, { on := 20, ground := Go.Ground.chain }, { on := 0, ground := Go.Ground.phase }, { on := 1, ground := Go.Ground.phase }, { on := 2, ground := Go.Ground.phase }, { on := 3, ground := Go.Ground.phase }, { on := 4, ground := Go.Ground.phase }, { on := 5, ground := Go.Ground.phase }, { on := 6, ground := Go.Ground.phase }, { on := 7, ground := Go.Ground.phase }, { on := 8, ground := Go.Ground.phase }, { on := 9, ground := Go.Ground.phase }, { on := 10, ground := Go.Ground.phase }, { on := 11, ground := Go.Ground.phase }, { on := 12, ground := Go.Ground.phase }, { on := 13, ground := Go.Ground.phase }, { on := 14, ground := Go.Ground.phase }, { on := 15, ground := Go.Ground.phase }, { on := 16, ground := Go.Ground.phase }, { on := 17, ground := Go.Ground.phase }, { on := 18, ground := Go.Ground.phase }, { on := 19, ground := Go.Ground.phase }, { on := 20, ground := Go.Ground.phase }, { on := 21, ground := Go.Ground.phase }], guard := none }) rfl (by kernel_rfl) (fun KQ hKQ => ?_)
    go_simp
    refine hKQ.out _ _ ?s_22 ?_
    case s_22 => exact .inl (by decide)
    clear hKQ KQ
    try simp only [Act.put, List.setIfInBounds_toArray, List.set_cons_zero, List.set_cons_succ]
    refine tail.done (by kernel_rfl) ?_ _
    go_wp2_with fail
    go_ret
    exact ⟨by simp, _, _, _, _, lab3, HE.out.1, HE.out.2.1, (hB02.drew.trans HBe.out).trans HE.out.2.2, by have := HN.out.2.1; omega, by have := HN.out.2.2; omega⟩
end
end Go.Proofs.Ytafdgibkhefplaa.law5
