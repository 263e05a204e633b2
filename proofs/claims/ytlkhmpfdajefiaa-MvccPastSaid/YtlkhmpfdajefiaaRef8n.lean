/- What the document's Scan (antipoderef8) comes to. Conditions: few cells, few versions. -/
import Derived.Test.YtlkhmpfdajefiaaRef8j
import Derived.Test.YtlkhmpfdajefiaaJoin1
import Derived.Deep.CutBlock
namespace Go.Proofs.Ytlkhmpfdajefiaa.ref8
open Go Go.RowKit Go.Proofs.Ytlkhmpfdajefiaa.kit Go.Proofs.Ytlkhmpfdajefiaa.nums Go.Proofs.Ytlkhmpfdajefiaa.st Go.Proofs.Ytlkhmpfdajefiaa.mv
set_option linter.unusedVariables false

/-- The cells of a pair of texts. -/
def prC (p : ByteArray × ByteArray) : List Value := [.string p.1, .string p.2]
theorem pr_len (p : ByteArray × ByteArray) : (prC p).length = 2 := rfl
theorem infoP : (Try.prog.info? 58).map (fun i => (i.zero, i.size, i.bytes)) = some (some (.agg #[.string { data := #[] }, .string { data := #[] }]), 2, 32) := by kernel_rfl
/-- An own slice of pairs. -/
def OwnPs (w : World) (base : Nat) (v : Value) (ps : List (ByteArray × ByteArray)) : Prop := w.ownsRow base 58 2 v ps.length (ps.flatMap prC)
theorem OwnPs.below {w w' : World} {base : Nat} {v : Value} {ps : List (ByteArray × ByteArray)} (h : OwnPs w base v ps) (hb : Below w.heap.size w w') : OwnPs w' base v ps := by
  refine ⟨h.1, ?_⟩
  rcases h.2 with hn | ⟨g, cap, cur, rfl, hbg, hg, r⟩
  · exact .inl hn
  · exact .inr ⟨g, cap, cur, rfl, hbg, by rw [hb.block g (lt_of_block hg)]; exact hg, r⟩
theorem OwnPs.more {w : World} {base base' : Nat} {v : Value} {ps : List (ByteArray × ByteArray)} (h : OwnPs w base v ps) (hb : base' ≤ base) : OwnPs w base' v ps := by
  refine ⟨h.1, ?_⟩
  rcases h.2 with hn | ⟨g, cap, cur, rfl, hbg, r⟩
  · exact .inl hn
  · exact .inr ⟨g, cap, cur, rfl, by omega, r⟩
theorem wpList_append_pair {w : World} {ops : Array Oper} {rest : List Oper} {o : Oper} {a : Act} {Q : Exit → Act → World → Prop} (hgd : o.guard = none) (s x : Operand)
    (ho : o.op = .call { callee := .builtin .append, args := #[s, x], argTypes := #[53, 53] }) (base : Nat)
    (A : Option Addr) (n c : Nat) (ps : List (ByteArray × ByteArray)) (hn : ps.length = n) (hs : a.eval s = .slice A n c) (hown : OwnPs w base (.slice A n c) ps)
    (B b f xc : Nat) (p : ByteArray × ByteArray) (hx : a.eval x = .slice (some ⟨b, f, none⟩) 1 xc) (hbB : b < B) (hA : At w b f (prC p)) (hb : n ≤ 1000000) (hbase : base ≤ w.heap.size)
    (h : ∀ A' c' w', OwnPs w' base (.slice A' (n + 1) c') (ps ++ [p]) → Below base w w' → wpList Try.prog ops Q rest (a.put o.dst (.slice A' (n + 1) c')) w') : wpList Try.prog ops Q (o :: rest) a w := by
  unfold OwnPs at hown
  rw [hn] at hown
  have hone : ∀ u ∈ prC p, u.oneCell' = true := by
    intro u hu
    simp only [prC, List.mem_cons, List.not_mem_nil, or_false] at hu
    rcases hu with rfl | rfl <;> rfl
  refine wpList_append_k hgd s x 53 ho base 58 _ 2 32 Try.underlying53 infoP rfl (by omega) A n c _ hs hown B _ 1 xc (prC p) hx ⟨rfl, fun _ => ⟨b, f, rfl, hbB, hA⟩⟩ hone (by omega) (by unfold maxLen; omega) hbase ?_
  intro A' c' w' hO hB hG
  refine h A' c' w' ?_ hB
  unfold OwnPs
  rw [List.length_append, List.flatMap_append, hn]
  simpa using hO
/-- What a cell gives a scan. -/
def oneScan (lo hi : ByteArray) (t : StL) (x : CellL) : Option (ByteArray × ByteArray) := if inF x.key lo hi then (ofF x.vers t).map fun d => (x.key, d) else none
theorem scan_def (cs : List CellL) (lo hi : ByteArray) (t : StL) : scanF cs lo hi t = cs.filterMap (oneScan lo hi t) := rfl
theorem fm_step' {β : Type} {f : CellL → Option β} {cs : List CellL} {j : Nat} {x : CellL} (hx : cs[j]? = some x) : (cs.take (j + 1)).filterMap f = (cs.take j).filterMap f ++ (f x).toList := by
  obtain ⟨hj, rfl⟩ := List.getElem?_eq_some_iff.1 hx
  rw [List.take_succ_eq_append_getElem hj, List.filterMap_append]
  cases hf : f cs[j] <;> simp [hf]
/-- What Scan ends in. -/
def RetPs (W : World) (ps : List (ByteArray × ByteArray)) (most : Int) (e : Ending) (w' : World) : Prop :=
  (((ps.length : Int) ≤ max most 0 ∧ ∃ A c, e = .returned (.tuple #[.slice A ps.length c, .int .i64 0]) ∧ OwnPs w' W.heap.size (.slice A ps.length c) ps) ∨ (¬ (ps.length : Int) ≤ max most 0 ∧ e = .returned (.tuple #[.slice none 0 0, .int .i64 3]))) ∧ Below W.heap.size W w'
set_option maxRecDepth 100000 in
set_option maxHeartbeats 4000000 in
theorem scan_any (A : Option Addr) (n c : Nat) (cs : List CellL) (lo hi : ByteArray) (t : StL) (most : Int) (w : World) (B : Nat) (hR : RdC w B A n cs) (hB : B ≤ w.heap.size) (hf : Few cs) :
    Calls Try.prog 35 #[.slice A n c, .agg #[.string lo, .string hi], .agg (stC t).toArray, .int .i64 most] w (RetPs w (scanF cs lo hi t) most) := by
  obtain rfl : cs.length = n := hR.1
  have HR := Lib.hid (fun j (hj : j < cs.length) => hR.at_ hj)
  have hn2 := hf.1
  have HF := Lib.hid hf.2
  have IN := Lib.hid (fun (k : ByteArray) w => in_any k lo hi w)
  have OF := Lib.hid (fun (x : CellL) (sv : Value) (wq : World) (h : Below w.heap.size w wq) (hS : SlVs w B sv x.vers) (hx : x.vers.length ≤ 1000) => of_any x sv t wq B (hS.below (h.mono hB)) (by have := h.size; omega) (by omega))
  rw [scan_def]
  obtain ⟨f, hfd⟩ : ∃ f, f = oneScan lo hi t := ⟨_, rfl⟩
  rw [← hfd]
  have HFD : Hid (f = oneScan lo hi t) := hfd
  clear hR hf hfd
  obtain ⟨tw, tt⟩ := t
  unfold stC
  unfold stC cellC at OF
  dsimp only at OF ⊢
  have hB0 : Hid (Below w.heap.size w ((w.alloc (.cells #[.string lo, .string hi] 26)).alloc (.cells #[.int .i64 tw, .int .i64 tt] 24))) := ((Below.refl _ _).alloc (Nat.le_refl _) _).alloc (by simp) _
  have k0 : Hid (Blk 26 ((w.alloc (.cells #[.string lo, .string hi] 26)).alloc (.cells #[.int .i64 tw, .int .i64 tt] 24)) w.heap.size [.string lo, .string hi]) := Blk.alloc (heap_alloc_new w _) _
  have k1 : Hid (Blk 24 ((w.alloc (.cells #[.string lo, .string hi] 26)).alloc (.cells #[.int .i64 tw, .int .i64 tt] 24)) (w.heap.size + 1) [.int .i64 tw, .int .i64 tt]) := by
    have := heap_alloc_new (w.alloc (.cells #[.string lo, .string hi] 26)) (.cells #[.int .i64 tw, .int .i64 tt] 24)
    simpa [Blk, Hid] using this
  go_enter Try.func35, Try.ntmps35
  go_upto_region 1 with (fail)
  generalize ((w.alloc (.cells #[.string lo, .string hi] 26)).alloc (.cells #[.int .i64 tw, .int .i64 tt] 24)) = w1 at *
  have hs1 : w.heap.size + 1 < w1.heap.size := k1.out.lt
  have HC : Hid (∀ wq, Below w1.heap.size w1 wq → (wq.cell? ⟨w.heap.size, 0, none⟩ = some (.string lo) ∧ wq.cell? ⟨w.heap.size, 1, none⟩ = some (.string hi) ∧ wq.cell? ⟨w.heap.size + 1, 0, none⟩ = some (.int .i64 tw) ∧ wq.cell? ⟨w.heap.size + 1, 1, none⟩ = some (.int .i64 tt))) := fun wq hq => ⟨(k0.out.below hq (by omega)).cell 0, (k0.out.below hq (by omega)).cell 1, (k1.out.below hq hs1).cell 0, (k1.out.below hq hs1).cell 1⟩
  go_wp2_with fail
  go_loopw [10, 11] (fun lv iv wr => ∃ (j m : Nat) (A' : Option Addr) (c' : Nat), j ≤ cs.length ∧ iv = .int .i64 j ∧ lv = .slice A' m c' ∧ Hid (((cs.take j).filterMap f).length = m) ∧ m ≤ j ∧ OwnPs wr w1.heap.size (.slice A' m c') ((cs.take j).filterMap f) ∧ Below w1.heap.size w1 wr) (fun _ iv _ => cs.length - (intOf iv).toNat)
  case atStart => exact ⟨0, 0, none, 0, Nat.zero_le _, rfl, rfl, rfl, Nat.le_refl _, World.ownsRow_nil _ _ _ 2, Below.refl _ _⟩
  case round =>
    obtain ⟨j, m, A', c', hj, rfl, rfl, hm, hmj, hO, hBr⟩ := hrel
    have hsr := hBr.size
    by_cases hlt : j < cs.length
    · obtain ⟨b, o, x, sv, rfl, hbB, hx, hS, hA⟩ := HR.out j hlt
      have hvx := HF.out x (List.mem_of_getElem? hx)
      have HST := Lib.hid (fm_step' (f := f) hx)
      have HV : Hid (f x = if inF x.key lo hi then (ofF x.vers ⟨tw, tt⟩).map fun d => (x.key, d) else none) := by rw [HFD.out]; exact Lib.hid rfl
      have OFx := Lib.hid (fun (wq : World) (h : Below w.heap.size w wq) => OF.out x sv wq h hS hvx)
      obtain ⟨As, cv, rfl, _, _, _⟩ := hS
      have HS : Hid (∀ wq, Below w1.heap.size w1 wq → (wq.cell? ⟨w.heap.size, 0, none⟩ = some (.string lo) ∧ wq.cell? ⟨w.heap.size, 1, none⟩ = some (.string hi) ∧ wq.cell? ⟨w.heap.size + 1, 0, none⟩ = some (.int .i64 tw) ∧ wq.cell? ⟨w.heap.size + 1, 1, none⟩ = some (.int .i64 tt)) ∧ wq.cell? ⟨b, o + j * 12, none⟩ = some (.string x.key) ∧ wq.cell? ⟨b, o + j * 12 + 1, none⟩ = some (.slice As x.vers.length cv) ∧ wq.cell? ⟨b, o + j * 12 + 2, none⟩ = some (.bool x.locked) ∧ wq.cell? ⟨b, o + j * 12 + 3, none⟩ = some (.int .i64 x.lock.by_.node) ∧ wq.cell? ⟨b, o + j * 12 + 4, none⟩ = some (.int .i64 x.lock.by_.life) ∧ wq.cell? ⟨b, o + j * 12 + 5, none⟩ = some (.int .i64 x.lock.by_.seq) ∧ wq.cell? ⟨b, o + j * 12 + 6, none⟩ = some (.int .i64 x.lock.by_.att) ∧ wq.cell? ⟨b, o + j * 12 + 7, none⟩ = some (.int .i64 x.lock.home) ∧ wq.cell? ⟨b, o + j * 12 + 8, none⟩ = some (.int .i64 x.lock.at_.wall) ∧ wq.cell? ⟨b, o + j * 12 + 9, none⟩ = some (.int .i64 x.lock.at_.tie) ∧ wq.cell? ⟨b, o + j * 12 + 10, none⟩ = some (.bool x.lock.drop) ∧ wq.cell? ⟨b, o + j * 12 + 11, none⟩ = some (.string x.lock.data)) := fun wq hq => by
        have hA2 := at12 (hA.below (show b < w.heap.size by omega) (hB0.out.trans (hq.mono hB0.out.size)))
        exact ⟨HC.out _ hq, hA2⟩
      have INx := Lib.hid (fun w => IN.out x.key w)
      have p0 : Below w1.heap.size w1 wr.drew := hBr.drew
      clear hA hx
      generalize hin : inF x.key lo hi = bi at *
      generalize hof : ofF x.vers ⟨tw, tt⟩ = r at *
      clear hin hof
      rcases bi with _ | _
      · have HN : Hid ((cs.take (j + 1)).filterMap f = (cs.take j).filterMap f) := by
          rw [HST.out, HV.out]
          simp [Hid]
        clear HST HV
        go_upto_region 5 with (fail)
        refine wp_region_held_drew (S := fun wq => (wq.cell? ⟨w.heap.size, 0, none⟩ = some (.string lo) ∧ wq.cell? ⟨w.heap.size, 1, none⟩ = some (.string hi) ∧ wq.cell? ⟨w.heap.size + 1, 0, none⟩ = some (.int .i64 tw) ∧ wq.cell? ⟨w.heap.size + 1, 1, none⟩ = some (.int .i64 tt)) ∧ wq.cell? ⟨b, o + j * 12, none⟩ = some (.string x.key) ∧ wq.cell? ⟨b, o + j * 12 + 1, none⟩ = some (.slice As x.vers.length cv) ∧ wq.cell? ⟨b, o + j * 12 + 2, none⟩ = some (.bool x.locked) ∧ wq.cell? ⟨b, o + j * 12 + 3, none⟩ = some (.int .i64 x.lock.by_.node) ∧ wq.cell? ⟨b, o + j * 12 + 4, none⟩ = some (.int .i64 x.lock.by_.life) ∧ wq.cell? ⟨b, o + j * 12 + 5, none⟩ = some (.int .i64 x.lock.by_.seq) ∧ wq.cell? ⟨b, o + j * 12 + 6, none⟩ = some (.int .i64 x.lock.by_.att) ∧ wq.cell? ⟨b, o + j * 12 + 7, none⟩ = some (.int .i64 x.lock.home) ∧ wq.cell? ⟨b, o + j * 12 + 8, none⟩ = some (.int .i64 x.lock.at_.wall) ∧ wq.cell? ⟨b, o + j * 12 + 9, none⟩ = some (.int .i64 x.lock.at_.tie) ∧ wq.cell? ⟨b, o + j * 12 + 10, none⟩ = some (.bool x.lock.drop) ∧ wq.cell? ⟨b, o + j * 12 + 11, none⟩ = some (.string x.lock.data)) (by kernel_rfl) ?s_0 (fun hHeld => ?_)
        case s_0 => exact HS.out _ p0
        refine tk 0 { dst := some 20, op := .move (.tmp 0), type := 31, pos := "ref.go:77", after := #[], guard := none } _ ?_
        try simp only [Act.put, List.setIfInBounds_toArray, List.set_cons_zero, List.set_cons_succ]
        refine tk 1 { dst := some 21, op := .move (.tmp 11), type := 3, pos := "ref.go:77", after := #[], guard := none } _ ?_
        try simp only [Act.put, List.setIfInBounds_toArray, List.set_cons_zero, List.set_cons_succ]
        refine tk 2 { dst := some 22, op := .indexAddr 31 (.tmp 20) (.tmp 21), type := 0, pos := "ref.go:77", after := #[{ on := 0, ground := .data }, { on := 1, ground := .data }], guard := none } _ ?_
        try simp only [Act.put, List.setIfInBounds_toArray, List.set_cons_zero, List.set_cons_succ]
        refine tk 3 { dst := some 23, op := .fieldAddr 45 (.tmp 22) 0, type := 0, pos := "ref.go:77", after := #[{ on := 2, ground := .data }], guard := none } _ ?_
        try simp only [Act.put, List.setIfInBounds_toArray, List.set_cons_zero, List.set_cons_succ]
        refine tk 4 { dst := some 24, op := .load 9 (.tmp 23), type := 9, pos := "ref.go:77", after := #[{ on := 3, ground := .data }], guard := none } _ ?_
        try simp only [Act.put, List.setIfInBounds_toArray, List.set_cons_zero, List.set_cons_succ]
        refine tk 5 { dst := some 25, op := .load 26 (.tmp 5), type := 26, pos := "ref.go:77", after := #[], guard := none } _ ?_
        try simp only [Act.put, List.setIfInBounds_toArray, List.set_cons_zero, List.set_cons_succ]
        refine wpAnyH_ready (rs := [6]) (by kernel_rfl) (by simp) ?_
        refine AllReadyH.cons (o := { dst := some 26, op := .call { callee := .value (.func 53), args := #[.tmp 24, .tmp 25], argTypes := #[9, 26] }, type := 4, pos := "ref.go:77", after := #[{ on := 4, ground := .data }, { on := 5, ground := .data }], guard := none }) rfl (fun KQ hKQ => ?_) AllReadyH.nil
        go_simp
        refine (INx.out _).mono ?_
        rintro e y1 ⟨rfl, hY1⟩
        have p1 := p0.trans (hY1.mono p0.size)
        have r1 := HS.out _ p1
        go_wp2_with fail
        refine hKQ.out _ _ ?s_6 (fun hHeld6 => ?_)
        case s_6 => exact r1
        clear hKQ KQ
        try simp only [Act.put, List.setIfInBounds_toArray, List.set_cons_zero, List.set_cons_succ]
        refine tk 7 { dst := some 27, op := .unOp .not 4 (.tmp 26), type := 4, pos := "ref.go:77", after := #[{ on := 6, ground := .data }], guard := none } _ ?_
        try simp only [Act.put, List.setIfInBounds_toArray, List.set_cons_zero, List.set_cons_succ]
        refine wpAnyH_done (by kernel_rfl) ?_ _
        have hO2 := hO.below ((Below.refl wr.heap.size wr).drew.trans hY1)
        go_wp2_with fail
        go_roundw
        case rel => exact ⟨j + 1, m, A', c', by omega, by go_num, rfl, by rw [HN.out]; exact hm, by omega, by rw [HN.out]; exact hO2, p1⟩
        case measure => simp [intOf]; omega
      · go_upto_region 5 with (fail)
        refine wp_region_held_drew (S := fun wq => (wq.cell? ⟨w.heap.size, 0, none⟩ = some (.string lo) ∧ wq.cell? ⟨w.heap.size, 1, none⟩ = some (.string hi) ∧ wq.cell? ⟨w.heap.size + 1, 0, none⟩ = some (.int .i64 tw) ∧ wq.cell? ⟨w.heap.size + 1, 1, none⟩ = some (.int .i64 tt)) ∧ wq.cell? ⟨b, o + j * 12, none⟩ = some (.string x.key) ∧ wq.cell? ⟨b, o + j * 12 + 1, none⟩ = some (.slice As x.vers.length cv) ∧ wq.cell? ⟨b, o + j * 12 + 2, none⟩ = some (.bool x.locked) ∧ wq.cell? ⟨b, o + j * 12 + 3, none⟩ = some (.int .i64 x.lock.by_.node) ∧ wq.cell? ⟨b, o + j * 12 + 4, none⟩ = some (.int .i64 x.lock.by_.life) ∧ wq.cell? ⟨b, o + j * 12 + 5, none⟩ = some (.int .i64 x.lock.by_.seq) ∧ wq.cell? ⟨b, o + j * 12 + 6, none⟩ = some (.int .i64 x.lock.by_.att) ∧ wq.cell? ⟨b, o + j * 12 + 7, none⟩ = some (.int .i64 x.lock.home) ∧ wq.cell? ⟨b, o + j * 12 + 8, none⟩ = some (.int .i64 x.lock.at_.wall) ∧ wq.cell? ⟨b, o + j * 12 + 9, none⟩ = some (.int .i64 x.lock.at_.tie) ∧ wq.cell? ⟨b, o + j * 12 + 10, none⟩ = some (.bool x.lock.drop) ∧ wq.cell? ⟨b, o + j * 12 + 11, none⟩ = some (.string x.lock.data)) (by kernel_rfl) ?s_0 (fun hHeld => ?_)
        case s_0 => exact HS.out _ p0
        refine tk 0 { dst := some 20, op := .move (.tmp 0), type := 31, pos := "ref.go:77", after := #[], guard := none } _ ?_
        try simp only [Act.put, List.setIfInBounds_toArray, List.set_cons_zero, List.set_cons_succ]
        refine tk 1 { dst := some 21, op := .move (.tmp 11), type := 3, pos := "ref.go:77", after := #[], guard := none } _ ?_
        try simp only [Act.put, List.setIfInBounds_toArray, List.set_cons_zero, List.set_cons_succ]
        refine tk 2 { dst := some 22, op := .indexAddr 31 (.tmp 20) (.tmp 21), type := 0, pos := "ref.go:77", after := #[{ on := 0, ground := .data }, { on := 1, ground := .data }], guard := none } _ ?_
        try simp only [Act.put, List.setIfInBounds_toArray, List.set_cons_zero, List.set_cons_succ]
        refine tk 3 { dst := some 23, op := .fieldAddr 45 (.tmp 22) 0, type := 0, pos := "ref.go:77", after := #[{ on := 2, ground := .data }], guard := none } _ ?_
        try simp only [Act.put, List.setIfInBounds_toArray, List.set_cons_zero, List.set_cons_succ]
        refine tk 4 { dst := some 24, op := .load 9 (.tmp 23), type := 9, pos := "ref.go:77", after := #[{ on := 3, ground := .data }], guard := none } _ ?_
        try simp only [Act.put, List.setIfInBounds_toArray, List.set_cons_zero, List.set_cons_succ]
        refine tk 5 { dst := some 25, op := .load 26 (.tmp 5), type := 26, pos := "ref.go:77", after := #[], guard := none } _ ?_
        try simp only [Act.put, List.setIfInBounds_toArray, List.set_cons_zero, List.set_cons_succ]
        refine wpAnyH_ready (rs := [6]) (by kernel_rfl) (by simp) ?_
        refine AllReadyH.cons (o := { dst := some 26, op := .call { callee := .value (.func 53), args := #[.tmp 24, .tmp 25], argTypes := #[9, 26] }, type := 4, pos := "ref.go:77", after := #[{ on := 4, ground := .data }, { on := 5, ground := .data }], guard := none }) rfl (fun KQ hKQ => ?_) AllReadyH.nil
        go_simp
        refine (INx.out _).mono ?_
        rintro e y1 ⟨rfl, hY1⟩
        have p1 := p0.trans (hY1.mono p0.size)
        have r1 := HS.out _ p1
        go_wp2_with fail
        refine hKQ.out _ _ ?s_6 (fun hHeld6 => ?_)
        case s_6 => exact r1
        clear hKQ KQ
        try simp only [Act.put, List.setIfInBounds_toArray, List.set_cons_zero, List.set_cons_succ]
        refine tk 7 { dst := some 27, op := .unOp .not 4 (.tmp 26), type := 4, pos := "ref.go:77", after := #[{ on := 6, ground := .data }], guard := none } _ ?_
        try simp only [Act.put, List.setIfInBounds_toArray, List.set_cons_zero, List.set_cons_succ]
        refine wpAnyH_done (by kernel_rfl) ?_ _
        have hO2 := hO.below ((Below.refl wr.heap.size wr).drew.trans hY1)
        clear hO hHeld p0 hY1 hBr
        go_upto_region 6 with (fail)
        have q0 : Below w1.heap.size w1 y1.drew := p1.drew
        refine wp_region_held_drew (S := fun wq => (wq.cell? ⟨w.heap.size, 0, none⟩ = some (.string lo) ∧ wq.cell? ⟨w.heap.size, 1, none⟩ = some (.string hi) ∧ wq.cell? ⟨w.heap.size + 1, 0, none⟩ = some (.int .i64 tw) ∧ wq.cell? ⟨w.heap.size + 1, 1, none⟩ = some (.int .i64 tt)) ∧ wq.cell? ⟨b, o + j * 12, none⟩ = some (.string x.key) ∧ wq.cell? ⟨b, o + j * 12 + 1, none⟩ = some (.slice As x.vers.length cv) ∧ wq.cell? ⟨b, o + j * 12 + 2, none⟩ = some (.bool x.locked) ∧ wq.cell? ⟨b, o + j * 12 + 3, none⟩ = some (.int .i64 x.lock.by_.node) ∧ wq.cell? ⟨b, o + j * 12 + 4, none⟩ = some (.int .i64 x.lock.by_.life) ∧ wq.cell? ⟨b, o + j * 12 + 5, none⟩ = some (.int .i64 x.lock.by_.seq) ∧ wq.cell? ⟨b, o + j * 12 + 6, none⟩ = some (.int .i64 x.lock.by_.att) ∧ wq.cell? ⟨b, o + j * 12 + 7, none⟩ = some (.int .i64 x.lock.home) ∧ wq.cell? ⟨b, o + j * 12 + 8, none⟩ = some (.int .i64 x.lock.at_.wall) ∧ wq.cell? ⟨b, o + j * 12 + 9, none⟩ = some (.int .i64 x.lock.at_.tie) ∧ wq.cell? ⟨b, o + j * 12 + 10, none⟩ = some (.bool x.lock.drop) ∧ wq.cell? ⟨b, o + j * 12 + 11, none⟩ = some (.string x.lock.data)) (by kernel_rfl) ?s_1 (fun hHeld => ?_)
        case s_1 => exact HS.out _ q0
        refine tk 0 { dst := some 29, op := .move (.tmp 0), type := 31, pos := "ref.go:80", after := #[], guard := none } _ ?_
        try simp only [Act.put, List.setIfInBounds_toArray, List.set_cons_zero, List.set_cons_succ]
        refine tk 1 { dst := some 30, op := .move (.tmp 11), type := 3, pos := "ref.go:80", after := #[], guard := none } _ ?_
        try simp only [Act.put, List.setIfInBounds_toArray, List.set_cons_zero, List.set_cons_succ]
        refine tk 2 { dst := some 31, op := .indexAddr 31 (.tmp 29) (.tmp 30), type := 0, pos := "ref.go:80", after := #[{ on := 0, ground := .data }, { on := 1, ground := .data }], guard := none } _ ?_
        try simp only [Act.put, List.setIfInBounds_toArray, List.set_cons_zero, List.set_cons_succ]
        refine tk 3 { dst := some 32, op := .load 45 (.tmp 31), type := 45, pos := "ref.go:80", after := #[{ on := 2, ground := .data }], guard := none } _ ?_
        try simp only [Act.put, List.setIfInBounds_toArray, List.set_cons_zero, List.set_cons_succ]
        refine tk 4 { dst := some 33, op := .load 24 (.tmp 6), type := 24, pos := "ref.go:80", after := #[], guard := none } _ ?_
        try simp only [Act.put, List.setIfInBounds_toArray, List.set_cons_zero, List.set_cons_succ]
        refine wpAnyH_ready (rs := [5]) (by kernel_rfl) (by simp) ?_
        refine AllReadyH.cons (o := { dst := some 34, op := .call { callee := .value (.func 51), args := #[.tmp 32, .tmp 33], argTypes := #[45, 24] }, type := 63, pos := "ref.go:80", after := #[{ on := 3, ground := .data }, { on := 4, ground := .data }], guard := none }) rfl (fun KQ hKQ => ?_) AllReadyH.nil
        go_simp
        refine (OFx.out _ (hB0.out.trans (q0.mono hB0.out.size))).mono ?_
        rintro e y2 ⟨rfl, hY2⟩
        have q1 := q0.trans (hY2.mono q0.size)
        have r2 := HS.out _ q1
        unfold ofV
        go_wp2_with fail
        refine hKQ.out _ _ ?s_5 (fun hHeld5 => ?_)
        case s_5 => exact r2
        clear hKQ KQ
        try simp only [Act.put, List.setIfInBounds_toArray, List.set_cons_zero, List.set_cons_succ]
        refine tk 6 { dst := some 28, op := .move (.tmp 34), type := 63, pos := "ref.go:80", after := #[{ on := 5, ground := .data }], guard := none } _ ?_
        try simp only [Act.put, List.setIfInBounds_toArray, List.set_cons_zero, List.set_cons_succ]
        refine tk 7 { dst := some 35, op := .extract (.tmp 28) 0, type := 9, pos := "ref.go:80", after := #[{ on := 6, ground := .data }], guard := none } _ ?_
        try simp only [Act.put, List.setIfInBounds_toArray, List.set_cons_zero, List.set_cons_succ]
        refine tk 8 { dst := some 36, op := .extract (.tmp 28) 1, type := 4, pos := "ref.go:80", after := #[{ on := 6, ground := .data }, { on := 9, ground := .gcOnly Go.Departure.lateStores }], guard := none } _ ?_
        try simp only [Act.put, List.setIfInBounds_toArray, List.set_cons_zero, List.set_cons_succ]
        refine tk 9 { dst := some 12, op := .assign (.tmp 35), type := 9, pos := "ref.go:80", after := #[{ on := 7, ground := .data }, { on := 5, ground := .chain }, { on := 0, ground := .phase }, { on := 1, ground := .phase }, { on := 2, ground := .phase }, { on := 3, ground := .phase }, { on := 4, ground := .phase }, { on := 5, ground := .phase }, { on := 6, ground := .phase }, { on := 7, ground := .phase }, { on := 8, ground := .textOnly Go.Departure.lateStores }], guard := none } _ ?_
        try simp only [Act.put, List.setIfInBounds_toArray, List.set_cons_zero, List.set_cons_succ]
        refine tk 10 { dst := some 13, op := .assign (.tmp 36), type := 4, pos := "ref.go:80", after := #[{ on := 8, ground := .data }, { on := 9, ground := .chain }, { on := 0, ground := .phase }, { on := 1, ground := .phase }, { on := 2, ground := .phase }, { on := 3, ground := .phase }, { on := 4, ground := .phase }, { on := 5, ground := .phase }, { on := 6, ground := .phase }, { on := 7, ground := .phase }, { on := 8, ground := .phase }, { on := 9, ground := .phase }], guard := none } _ ?_
        try simp only [Act.put, List.setIfInBounds_toArray, List.set_cons_zero, List.set_cons_succ]
        refine wpAnyH_done (by kernel_rfl) ?_ _
        have hO3 := hO2.below ((Below.refl y1.heap.size y1).drew.trans hY2)
        clear hO2
        rcases r with _ | d
        · have HN : Hid ((cs.take (j + 1)).filterMap f = (cs.take j).filterMap f) := by
            rw [HST.out, HV.out]
            simp [Hid]
          clear HST HV
          go_wp2_with fail
          go_roundw
          case rel => exact ⟨j + 1, m, A', c', by omega, by go_num, rfl, by rw [HN.out]; exact hm, by omega, by rw [HN.out]; exact hO3, q1⟩
          case measure => simp [intOf]; omega
        · have HN : Hid ((cs.take (j + 1)).filterMap f = (cs.take j).filterMap f ++ [(x.key, d)]) := by
            rw [HST.out, HV.out]
            simp [Hid]
          have a0 := (HS.out _ q1).2.1
          have hq1 := q1.size
          have hAn : At (y2.alloc (.cells #[.string x.key, .string d] 58)) y2.heap.size 0 (prC (x.key, d)) := at_new y2 58 _
          have hOn := hO3.below ((Below.refl y2.heap.size y2).alloc (Nat.le_refl _) (.cells #[.string x.key, .string d] 58))
          have hBn := q1.alloc hq1 (.cells #[.string x.key, .string d] 58)
          clear HST HV hO3
          go_wp2_with (at_builtin; with_reducible refine wpList_append_pair rfl (.tmp 38) (.tmp 46) rfl w1.heap.size A' m c' _ hm.out rfl hOn (y2.heap.size + 1) y2.heap.size 0 1 (x.key, d) rfl (Nat.lt_succ_self _) hAn ?hb1 ?hbase1 ?_)
          case hb1 => omega
          case hbase1 => simp; omega
          intro A3 c3 w5 hO5 hB5
          have hB15 := hBn.trans hB5
          go_wp2_with fail
          go_roundw
          case rel => exact ⟨j + 1, m + 1, A3, c3, by omega, by go_num, rfl, by rw [HN.out, List.length_append, hm.out]; exact rfl, by omega, by rw [HN.out]; exact hO5, hB15⟩
          case measure => simp [intOf]; omega
    · obtain rfl : j = cs.length := by omega
      rw [List.take_length] at hO hm
      have hBf := hB0.out.trans (hBr.mono hB0.out.size)
      have hOf := hO.more (base' := w.heap.size) (by omega)
      clear hO HF HR OF IN
      by_cases hmx : (m : Int) ≤ max most 0
      · have HM := Lib.hid hmx
        have hmx1 : ¬ (m : Int) > (if (0 : Int) > most then 0 else most) := by split <;> omega
        clear hmx
        go_wp2_with fail
        all_goals
          go_ret2
          unfold RetPs
          rw [hm.out]
          exact ⟨.inl ⟨by have := HM.out; omega, A', c', rfl, hOf⟩, hBf⟩
      · have HM := Lib.hid hmx
        have hmx1 : (m : Int) > (if (0 : Int) > most then 0 else most) := by split <;> omega
        clear hmx
        go_wp2_with fail
        all_goals
          go_ret2
          unfold RetPs
          rw [hm.out]
          exact ⟨.inr ⟨by have := HM.out; omega, rfl⟩, hBf⟩
end Go.Proofs.Ytlkhmpfdajefiaa.ref8
