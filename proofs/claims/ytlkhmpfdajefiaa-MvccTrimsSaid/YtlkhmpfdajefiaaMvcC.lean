/- What the program's Get, Held and Mine (mvcc) come to. Conditions: few cells, few versions, cells that may be. -/
import Derived.Test.YtlkhmpfdajefiaaMvcB
import Derived.Test.YtlkhmpfdajefiaaRef8d
namespace Go.Proofs.Ytlkhmpfdajefiaa.mvi
open Go Go.RowKit Go.Proofs.Ytlkhmpfdajefiaa.kit Go.Proofs.Ytlkhmpfdajefiaa.nums Go.Proofs.Ytlkhmpfdajefiaa.st Go.Proofs.Ytlkhmpfdajefiaa.mv Go.Proofs.Ytlkhmpfdajefiaa.ref8
set_option linter.unusedVariables false

set_option maxRecDepth 100000 in
set_option maxHeartbeats 2000000 in
theorem get_any (A : Option Addr) (n c : Nat) (cs : List CellL) (k : ByteArray) (t : StL) (w : World) (B : Nat) (hR : RdC w B A n cs) (hB : B ≤ w.heap.size) (hf : Few cs) (hok : okC cs) :
    Calls Try.prog 26 #[.slice A n c, .string k, .agg (stC t).toArray] w fun e w' => e = .returned (ofV (getF cs k t)) ∧ Below w.heap.size w w' := by
  obtain rfl : cs.length = n := hR.1
  have hn2 := hf.1
  have HR := Lib.hid (fun (wq : World) (h : Below w.heap.size w wq) (j : Nat) (hj : j < cs.length) => (hR.below (h.mono hB)).at_ hj)
  have FI := Lib.hid (fun (wq : World) (h : Below w.heap.size w wq) => find_any A cs.length c cs k wq B (hR.below (h.mono hB)) (by have := h.size; omega) (by omega) hok.1)
  have HB := Lib.hid (fun (p : Nat) (h : PosB cs k p true) => posB_found hok h)
  have HN := Lib.hid (fun (p : Nat) (h : PosB cs k p false) => posB_none hok.1 h)
  have HV := Lib.hid (fun (x : CellL) (hx : x ∈ cs) => (show x.vers.length ≤ 1000 ∧ x.vers.Pairwise (fun a b => lessF a.at_ b.at_ = true) from ⟨hf.2 x hx, (hok.2 x hx).1.1⟩))
  have HG := Lib.hid (show getF cs k t = (findF cs k).bind fun x => ofF x.vers t from rfl)
  have RD := Lib.hid (fun (A : Option Addr) (n c : Nat) (vs : List VerL) (wq : World) (h : Below w.heap.size w wq) (hV : RdVs wq B A n vs) (hb : n ≤ 1000) (hs : vs.Pairwise (fun a b => lessF a.at_ b.at_ = true)) => read_any A n c vs t wq B hV (by have := h.size; omega) hb hs)
  clear hR hf hok
  obtain ⟨tw, tt⟩ := t
  unfold stC
  dsimp only at RD ⊢
  have hB0 : Hid (Below w.heap.size w (w.alloc (.cells #[.int .i64 tw, .int .i64 tt] 24))) := (Below.refl _ _).alloc (Nat.le_refl _) _
  have k0 : Hid (Blk 24 (w.alloc (.cells #[.int .i64 tw, .int .i64 tt] 24)) w.heap.size [.int .i64 tw, .int .i64 tt]) := heap_alloc_new w _
  go_enter Try.func26, Try.ntmps26
  go_upto_region 1 with (fail)
  generalize (w.alloc (.cells #[.int .i64 tw, .int .i64 tt] 24)) = w1 at *
  have hs1 := k0.out.lt
  go_wp2_with fail
  refine (FI.out _ hB0.out).mono ?_
  rintro e w2 ⟨p, b, rfl, hP, hB2⟩
  have hB12 := hB0.out.trans (hB2.mono hB0.out.size)
  rcases b with _ | _
  · have hV : Hid (getF cs k ⟨tw, tt⟩ = none) := by rw [HG.out, HN.out p hP]; exact Lib.hid rfl
    clear hP FI HR HB HN HG RD
    go_wp2_with fail
    go_ret2
    exact ⟨by rw [hV.out]; rfl, hB12⟩
  · obtain ⟨x, hx, hk, hfd⟩ := HB.out p hP
    have hV : Hid (getF cs k ⟨tw, tt⟩ = ofF x.vers ⟨tw, tt⟩) := by rw [HG.out, hfd]; exact Lib.hid rfl
    have hpn : p < cs.length := (List.getElem?_eq_some_iff.1 hx).1
    obtain ⟨hv1, hv2⟩ := HV.out x (List.mem_of_getElem? hx)
    obtain ⟨b, o, y, sv, rfl, hbB, hy, hS, hA⟩ := HR.out w2 hB12 p hpn
    rw [hx] at hy
    obtain rfl := Option.some.inj hy
    obtain ⟨As, cv, rfl, hc1, hc2, hRv⟩ := hS
    have HS : Hid (∀ wq, Below w2.heap.size w2 wq → wq.cell? ⟨w.heap.size, 0, none⟩ = some (.int .i64 tw) ∧ wq.cell? ⟨w.heap.size, 1, none⟩ = some (.int .i64 tt) ∧ wq.cell? ⟨b, o + p * 12 + 1, none⟩ = some (.slice As x.vers.length cv)) := fun wq hq => by
      have kq := (k0.out.below hB2 hs1).below hq (by have := hB2.size; omega)
      have hAq := (hA.below (show b < w2.heap.size by have := hB12.size; omega) hq)
      exact ⟨kq.cell 0, kq.cell 1, hAq 1 _ rfl⟩
    have RDx := Lib.hid (fun (wq : World) (h : Below w2.heap.size w2 wq) => RD.out As x.vers.length cv x.vers wq (hB12.trans (h.mono hB12.size)) (hRv.below (h.mono (by have := hB12.size; omega))) hv1 hv2)
    have p0 : Below w2.heap.size w2 w2.drew := (Below.refl _ _).drew
    clear hP FI HR HB HN HG RD hx hk hfd hv1 hv2 hRv hA
    go_upto_region 4 with (fail)
    refine wp_region_held_drew (S := fun wq => wq.cell? ⟨w.heap.size, 0, none⟩ = some (.int .i64 tw) ∧ wq.cell? ⟨w.heap.size, 1, none⟩ = some (.int .i64 tt) ∧ wq.cell? ⟨b, o + p * 12 + 1, none⟩ = some (.slice As x.vers.length cv)) (by kernel_rfl) ?s_0 (fun hHeld => ?_)
    case s_0 => exact HS.out _ p0
    refine tk 0 { dst := some 18, op := .move (.tmp 0), type := 31, pos := "mvcc.go:28", after := #[], guard := none } _ ?_
    try simp only [Act.put, List.setIfInBounds_toArray, List.set_cons_zero, List.set_cons_succ]
    refine tk 1 { dst := some 19, op := .move (.tmp 8), type := 3, pos := "mvcc.go:28", after := #[], guard := none } _ ?_
    try simp only [Act.put, List.setIfInBounds_toArray, List.set_cons_zero, List.set_cons_succ]
    refine tk 2 { dst := some 20, op := .indexAddr 31 (.tmp 18) (.tmp 19), type := 0, pos := "mvcc.go:28", after := #[{ on := 0, ground := .data }, { on := 1, ground := .data }], guard := none } _ ?_
    try simp only [Act.put, List.setIfInBounds_toArray, List.set_cons_zero, List.set_cons_succ]
    refine tk 3 { dst := some 21, op := .fieldAddr 45 (.tmp 20) 1, type := 0, pos := "mvcc.go:28", after := #[{ on := 2, ground := .data }], guard := none } _ ?_
    try simp only [Act.put, List.setIfInBounds_toArray, List.set_cons_zero, List.set_cons_succ]
    refine tk 4 { dst := some 22, op := .load 43 (.tmp 21), type := 43, pos := "mvcc.go:28", after := #[{ on := 3, ground := .data }], guard := none } _ ?_
    try simp only [Act.put, List.setIfInBounds_toArray, List.set_cons_zero, List.set_cons_succ]
    refine tk 5 { dst := some 23, op := .load 24 (.tmp 5), type := 24, pos := "mvcc.go:28", after := #[], guard := none } _ ?_
    try simp only [Act.put, List.setIfInBounds_toArray, List.set_cons_zero, List.set_cons_succ]
    refine wpAnyH_ready (rs := [6]) (by kernel_rfl) (by simp) ?_
    refine AllReadyH.cons (o := { dst := some 24, op := .call { callee := .value (.func 43), args := #[.tmp 22, .tmp 23], argTypes := #[43, 24] }, type := 63, pos := "mvcc.go:28", after := #[{ on := 4, ground := .data }, { on := 5, ground := .data }], guard := none }) rfl (fun KQ hKQ => ?_) AllReadyH.nil
    go_simp
    refine (RDx.out _ p0).mono ?_
    rintro e z1 ⟨rfl, hZ1⟩
    have p1 := p0.trans (hZ1.mono p0.size)
    have r1 := HS.out _ p1
    unfold ofV
    go_wp2_with fail
    refine hKQ.out _ _ ?s_6 (fun hHeld6 => ?_)
    case s_6 => exact r1
    clear hKQ KQ
    try simp only [Act.put, List.setIfInBounds_toArray, List.set_cons_zero, List.set_cons_succ]
    refine tk 7 { dst := some 25, op := .extract (.tmp 24) 0, type := 9, pos := "mvcc.go:28", after := #[{ on := 6, ground := .data }], guard := none } _ ?_
    try simp only [Act.put, List.setIfInBounds_toArray, List.set_cons_zero, List.set_cons_succ]
    refine tk 8 { dst := some 26, op := .extract (.tmp 24) 1, type := 4, pos := "mvcc.go:28", after := #[{ on := 6, ground := .data }], guard := none } _ ?_
    try simp only [Act.put, List.setIfInBounds_toArray, List.set_cons_zero, List.set_cons_succ]
    refine tk 9 { dst := some 6, op := .assign (.tmp 25), type := 9, pos := "mvcc.go:28", after := #[{ on := 7, ground := .data }, { on := 6, ground := .chain }, { on := 0, ground := .phase }, { on := 1, ground := .phase }, { on := 2, ground := .phase }, { on := 3, ground := .phase }, { on := 4, ground := .phase }, { on := 5, ground := .phase }, { on := 6, ground := .phase }, { on := 7, ground := .phase }, { on := 8, ground := .phase }], guard := none } _ ?_
    try simp only [Act.put, List.setIfInBounds_toArray, List.set_cons_zero, List.set_cons_succ]
    refine tk 10 { dst := some 7, op := .assign (.tmp 26), type := 4, pos := "mvcc.go:28", after := #[{ on := 8, ground := .data }, { on := 9, ground := .chain }, { on := 0, ground := .phase }, { on := 1, ground := .phase }, { on := 2, ground := .phase }, { on := 3, ground := .phase }, { on := 4, ground := .phase }, { on := 5, ground := .phase }, { on := 6, ground := .phase }, { on := 7, ground := .phase }, { on := 8, ground := .phase }, { on := 9, ground := .phase }], guard := none } _ ?_
    try simp only [Act.put, List.setIfInBounds_toArray, List.set_cons_zero, List.set_cons_succ]
    refine wpAnyH_done (by kernel_rfl) ?_ _
    go_wp2_with fail
    go_ret2
    exact ⟨by rw [hV.out]; rfl, hB12.trans (p1.mono hB12.size)⟩
set_option maxRecDepth 100000 in
set_option maxHeartbeats 2000000 in
theorem held_any (A : Option Addr) (n c : Nat) (cs : List CellL) (k : ByteArray) (w : World) (B : Nat) (hR : RdC w B A n cs) (hB : B ≤ w.heap.size) (hf : Few cs) (hok : okC cs) :
    Calls Try.prog 27 #[.slice A n c, .string k] w fun e w' => e = .returned (lkV (heldF cs k)) ∧ Below w.heap.size w w' := by
  obtain rfl : cs.length = n := hR.1
  have hn2 := hf.1
  have HR := Lib.hid (fun (wq : World) (h : Below w.heap.size w wq) (j : Nat) (hj : j < cs.length) => (hR.below (h.mono hB)).at_ hj)
  have FI := Lib.hid (fun (wq : World) (h : Below w.heap.size w wq) => find_any A cs.length c cs k wq B (hR.below (h.mono hB)) (by have := h.size; omega) (by omega) hok.1)
  have HB := Lib.hid (fun (p : Nat) (h : PosB cs k p true) => posB_found hok h)
  have HN := Lib.hid (fun (p : Nat) (h : PosB cs k p false) => posB_none hok.1 h)
  have HG := Lib.hid (show heldF cs k = (findF cs k).bind fun x => if x.locked then some x.lock else none from rfl)
  clear hR hf hok
  have hB0 : Hid (Below w.heap.size w (w.alloc (.cells #[.int .i64 0, .int .i64 0, .int .i64 0, .int .i64 0, .int .i64 0, .int .i64 0, .int .i64 0, .bool false, .string { data := #[] }] 38))) := (Below.refl _ _).alloc (Nat.le_refl _) _
  have k0 : Hid (Blk 38 (w.alloc (.cells #[.int .i64 0, .int .i64 0, .int .i64 0, .int .i64 0, .int .i64 0, .int .i64 0, .int .i64 0, .bool false, .string { data := #[] }] 38)) w.heap.size [.int .i64 0, .int .i64 0, .int .i64 0, .int .i64 0, .int .i64 0, .int .i64 0, .int .i64 0, .bool false, .string { data := #[] }]) := heap_alloc_new w _
  go_enter Try.func27, Try.ntmps27
  go_upto_region 1 with (fail)
  generalize (w.alloc (.cells #[.int .i64 0, .int .i64 0, .int .i64 0, .int .i64 0, .int .i64 0, .int .i64 0, .int .i64 0, .bool false, .string { data := #[] }] 38)) = w1 at *
  have hs1 := k0.out.lt
  go_wp2_with fail
  refine (FI.out _ hB0.out).mono ?_
  rintro e w2 ⟨p, b, rfl, hP, hB2⟩
  have hB12 := hB0.out.trans (hB2.mono hB0.out.size)
  have K := k0.out.below hB2 hs1
  have D9 := blk9 K
  have df := fun i => K.frozen i
  obtain ⟨d0, d1, d2, d3, d4, d5, d6, d7, d8⟩ := D9
  rcases b with _ | _
  · have hV : Hid (heldF cs k = none) := by rw [HG.out, HN.out p hP]; exact Lib.hid rfl
    clear hP FI HR HB HN HG
    go_wp2_with fail
    have sF := put9 K (.int .i64 0) (.int .i64 0) (.int .i64 0) (.int .i64 0) (.int .i64 0) (.int .i64 0) (.int .i64 0) (.bool false) (.string { data := #[] })
    have hBf : Below w.heap.size w (((((((((w2.setCell ⟨w.heap.size, 0, none⟩ (.int .i64 0)).setCell ⟨w.heap.size, 1, none⟩ (.int .i64 0)).setCell ⟨w.heap.size, 2, none⟩ (.int .i64 0)).setCell ⟨w.heap.size, 3, none⟩ (.int .i64 0)).setCell ⟨w.heap.size, 4, none⟩ (.int .i64 0)).setCell ⟨w.heap.size, 5, none⟩ (.int .i64 0)).setCell ⟨w.heap.size, 6, none⟩ (.int .i64 0)).setCell ⟨w.heap.size, 7, none⟩ (.bool false)).setCell ⟨w.heap.size, 8, none⟩ (.string { data := #[] })) := (((((((((hB12.setCell (p := ⟨w.heap.size, 0, none⟩) (Nat.le_refl _) (.int .i64 0)).setCell (p := ⟨w.heap.size, 1, none⟩) (Nat.le_refl _) (.int .i64 0)).setCell (p := ⟨w.heap.size, 2, none⟩) (Nat.le_refl _) (.int .i64 0)).setCell (p := ⟨w.heap.size, 3, none⟩) (Nat.le_refl _) (.int .i64 0)).setCell (p := ⟨w.heap.size, 4, none⟩) (Nat.le_refl _) (.int .i64 0)).setCell (p := ⟨w.heap.size, 5, none⟩) (Nat.le_refl _) (.int .i64 0)).setCell (p := ⟨w.heap.size, 6, none⟩) (Nat.le_refl _) (.int .i64 0)).setCell (p := ⟨w.heap.size, 7, none⟩) (Nat.le_refl _) (.bool false)).setCell (p := ⟨w.heap.size, 8, none⟩) (Nat.le_refl _) (.string { data := #[] }))
    generalize (((((((((w2.setCell ⟨w.heap.size, 0, none⟩ (.int .i64 0)).setCell ⟨w.heap.size, 1, none⟩ (.int .i64 0)).setCell ⟨w.heap.size, 2, none⟩ (.int .i64 0)).setCell ⟨w.heap.size, 3, none⟩ (.int .i64 0)).setCell ⟨w.heap.size, 4, none⟩ (.int .i64 0)).setCell ⟨w.heap.size, 5, none⟩ (.int .i64 0)).setCell ⟨w.heap.size, 6, none⟩ (.int .i64 0)).setCell ⟨w.heap.size, 7, none⟩ (.bool false)).setCell ⟨w.heap.size, 8, none⟩ (.string { data := #[] })) = wf at *
    obtain ⟨e0, e1, e2, e3, e4, e5, e6, e7, e8⟩ := blk9 sF
    (try simp only [Exit.inBlock, Exit.then])
    refine bodyPost_ret (by simp [results, Try.results27, go_sem, e0, e1, e2, e3, e4, e5, e6, e7, e8]; try rfl) rfl ?_
    exact ⟨by rw [hV.out]; rfl, hBf⟩
  · obtain ⟨x, hx, hk, hfd⟩ := HB.out p hP
    have hV0 : heldF cs k = if x.locked then some x.lock else none := by rw [HG.out, hfd]; rfl
    have hpn : p < cs.length := (List.getElem?_eq_some_iff.1 hx).1
    obtain ⟨b, o, y, sv, rfl, hbB, hy, hS, hA⟩ := HR.out w2 hB12 p hpn
    rw [hx] at hy
    obtain rfl := Option.some.inj hy
    obtain ⟨a0, a1, a2, a3, a4, a5, a6, a7, a8, a9, a10, a11⟩ := at12 hA
    have hbl : b < w.heap.size := by omega
    clear hP FI HR HB HN HG hx hk hfd hA hS
    cases hl : x.locked with
    | false =>
      rw [hl] at a2 hV0
      have hV : Hid (heldF cs k = none) := hV0
      clear hV0
      go_wp2_with fail
      have sF := put9 K (.int .i64 0) (.int .i64 0) (.int .i64 0) (.int .i64 0) (.int .i64 0) (.int .i64 0) (.int .i64 0) (.bool false) (.string { data := #[] })
      have hBf : Below w.heap.size w (((((((((w2.setCell ⟨w.heap.size, 0, none⟩ (.int .i64 0)).setCell ⟨w.heap.size, 1, none⟩ (.int .i64 0)).setCell ⟨w.heap.size, 2, none⟩ (.int .i64 0)).setCell ⟨w.heap.size, 3, none⟩ (.int .i64 0)).setCell ⟨w.heap.size, 4, none⟩ (.int .i64 0)).setCell ⟨w.heap.size, 5, none⟩ (.int .i64 0)).setCell ⟨w.heap.size, 6, none⟩ (.int .i64 0)).setCell ⟨w.heap.size, 7, none⟩ (.bool false)).setCell ⟨w.heap.size, 8, none⟩ (.string { data := #[] })) := (((((((((hB12.setCell (p := ⟨w.heap.size, 0, none⟩) (Nat.le_refl _) (.int .i64 0)).setCell (p := ⟨w.heap.size, 1, none⟩) (Nat.le_refl _) (.int .i64 0)).setCell (p := ⟨w.heap.size, 2, none⟩) (Nat.le_refl _) (.int .i64 0)).setCell (p := ⟨w.heap.size, 3, none⟩) (Nat.le_refl _) (.int .i64 0)).setCell (p := ⟨w.heap.size, 4, none⟩) (Nat.le_refl _) (.int .i64 0)).setCell (p := ⟨w.heap.size, 5, none⟩) (Nat.le_refl _) (.int .i64 0)).setCell (p := ⟨w.heap.size, 6, none⟩) (Nat.le_refl _) (.int .i64 0)).setCell (p := ⟨w.heap.size, 7, none⟩) (Nat.le_refl _) (.bool false)).setCell (p := ⟨w.heap.size, 8, none⟩) (Nat.le_refl _) (.string { data := #[] }))
      generalize (((((((((w2.setCell ⟨w.heap.size, 0, none⟩ (.int .i64 0)).setCell ⟨w.heap.size, 1, none⟩ (.int .i64 0)).setCell ⟨w.heap.size, 2, none⟩ (.int .i64 0)).setCell ⟨w.heap.size, 3, none⟩ (.int .i64 0)).setCell ⟨w.heap.size, 4, none⟩ (.int .i64 0)).setCell ⟨w.heap.size, 5, none⟩ (.int .i64 0)).setCell ⟨w.heap.size, 6, none⟩ (.int .i64 0)).setCell ⟨w.heap.size, 7, none⟩ (.bool false)).setCell ⟨w.heap.size, 8, none⟩ (.string { data := #[] })) = wf at *
      obtain ⟨e0, e1, e2, e3, e4, e5, e6, e7, e8⟩ := blk9 sF
      (try simp only [Exit.inBlock, Exit.then])
      refine bodyPost_ret (by simp [results, Try.results27, go_sem, e0, e1, e2, e3, e4, e5, e6, e7, e8]; try rfl) rfl ?_
      exact ⟨by rw [hV.out]; rfl, hBf⟩
    | true =>
      rw [hl] at a2 hV0
      have hV : Hid (heldF cs k = some x.lock) := hV0
      clear hV0
      go_wp2_with fail
      have sF := put9 K (.int .i64 x.lock.by_.node) (.int .i64 x.lock.by_.life) (.int .i64 x.lock.by_.seq) (.int .i64 x.lock.by_.att) (.int .i64 x.lock.home) (.int .i64 x.lock.at_.wall) (.int .i64 x.lock.at_.tie) (.bool x.lock.drop) (.string x.lock.data)
      have hBf : Below w.heap.size w (((((((((w2.setCell ⟨w.heap.size, 0, none⟩ (.int .i64 x.lock.by_.node)).setCell ⟨w.heap.size, 1, none⟩ (.int .i64 x.lock.by_.life)).setCell ⟨w.heap.size, 2, none⟩ (.int .i64 x.lock.by_.seq)).setCell ⟨w.heap.size, 3, none⟩ (.int .i64 x.lock.by_.att)).setCell ⟨w.heap.size, 4, none⟩ (.int .i64 x.lock.home)).setCell ⟨w.heap.size, 5, none⟩ (.int .i64 x.lock.at_.wall)).setCell ⟨w.heap.size, 6, none⟩ (.int .i64 x.lock.at_.tie)).setCell ⟨w.heap.size, 7, none⟩ (.bool x.lock.drop)).setCell ⟨w.heap.size, 8, none⟩ (.string x.lock.data)) := (((((((((hB12.setCell (p := ⟨w.heap.size, 0, none⟩) (Nat.le_refl _) (.int .i64 x.lock.by_.node)).setCell (p := ⟨w.heap.size, 1, none⟩) (Nat.le_refl _) (.int .i64 x.lock.by_.life)).setCell (p := ⟨w.heap.size, 2, none⟩) (Nat.le_refl _) (.int .i64 x.lock.by_.seq)).setCell (p := ⟨w.heap.size, 3, none⟩) (Nat.le_refl _) (.int .i64 x.lock.by_.att)).setCell (p := ⟨w.heap.size, 4, none⟩) (Nat.le_refl _) (.int .i64 x.lock.home)).setCell (p := ⟨w.heap.size, 5, none⟩) (Nat.le_refl _) (.int .i64 x.lock.at_.wall)).setCell (p := ⟨w.heap.size, 6, none⟩) (Nat.le_refl _) (.int .i64 x.lock.at_.tie)).setCell (p := ⟨w.heap.size, 7, none⟩) (Nat.le_refl _) (.bool x.lock.drop)).setCell (p := ⟨w.heap.size, 8, none⟩) (Nat.le_refl _) (.string x.lock.data))
      generalize (((((((((w2.setCell ⟨w.heap.size, 0, none⟩ (.int .i64 x.lock.by_.node)).setCell ⟨w.heap.size, 1, none⟩ (.int .i64 x.lock.by_.life)).setCell ⟨w.heap.size, 2, none⟩ (.int .i64 x.lock.by_.seq)).setCell ⟨w.heap.size, 3, none⟩ (.int .i64 x.lock.by_.att)).setCell ⟨w.heap.size, 4, none⟩ (.int .i64 x.lock.home)).setCell ⟨w.heap.size, 5, none⟩ (.int .i64 x.lock.at_.wall)).setCell ⟨w.heap.size, 6, none⟩ (.int .i64 x.lock.at_.tie)).setCell ⟨w.heap.size, 7, none⟩ (.bool x.lock.drop)).setCell ⟨w.heap.size, 8, none⟩ (.string x.lock.data)) = wf at *
      obtain ⟨e0, e1, e2, e3, e4, e5, e6, e7, e8⟩ := blk9 sF
      (try simp only [Exit.inBlock, Exit.then])
      refine bodyPost_ret (by simp [results, Try.results27, go_sem, e0, e1, e2, e3, e4, e5, e6, e7, e8]; try rfl) rfl ?_
      exact ⟨by rw [hV.out]; rfl, hBf⟩
set_option maxRecDepth 100000 in
set_option maxHeartbeats 2000000 in
theorem mine_any (A : Option Addr) (n c : Nat) (cs : List CellL) (t : TrL) (w : World) (B : Nat) (hR : RdC w B A n cs) (hB : B ≤ w.heap.size) (hf : Few cs) (hok : okC cs) :
    Calls Try.prog 23 #[.slice A n c, .agg (trC t).toArray] w fun e w' => e = .returned (.bool (mineF cs t)) ∧ Below w.heap.size w w' := by
  have HR := Lib.hid (fun j (hj : j < n) => hR.at_ hj)
  have HI := Lib.hid (mine_step cs t)
  have HL := Lib.hid hR.1
  have hn2 : n ≤ 1000 := by rw [← hR.1]; exact hf.1
  have HO := Lib.hid (fun (x : CellL) (sv : Value) (w : World) => holds_any t x sv w)
  clear hR hf hok
  obtain ⟨z, hz⟩ : ∃ z, mineF cs t = z := ⟨_, rfl⟩
  rw [hz]
  have HZ : Hid (z = mineF (cs.drop 0) t) := hz.symm
  clear hz
  unfold trC
  have hB0 : Hid (Below w.heap.size w (w.alloc (.cells #[.int .i64 t.node, .int .i64 t.life, .int .i64 t.seq, .int .i64 t.att] 28))) := (Below.refl _ _).alloc (Nat.le_refl _) _
  have k0 : Hid (Blk 28 (w.alloc (.cells #[.int .i64 t.node, .int .i64 t.life, .int .i64 t.seq, .int .i64 t.att] 28)) w.heap.size [.int .i64 t.node, .int .i64 t.life, .int .i64 t.seq, .int .i64 t.att]) := heap_alloc_new w _
  go_enter Try.func23, Try.ntmps23
  go_upto_region 1 with (fail)
  generalize (w.alloc (.cells #[.int .i64 t.node, .int .i64 t.life, .int .i64 t.seq, .int .i64 t.att] 28)) = w1 at *
  go_wp2_with fail
  go_loopw [9] (fun iv wr => ∃ j : Nat, j ≤ n ∧ iv = .int .i64 j ∧ Hid (z = mineF (cs.drop j) t) ∧ Below w1.heap.size w1 wr) (fun iv _ => n - (intOf iv).toNat)
  case atStart => exact ⟨0, Nat.zero_le _, rfl, HZ, Below.refl _ _⟩
  case round =>
    obtain ⟨j, hj, rfl, hI, hBr⟩ := hrel
    have hBw := hB0.out.trans (hBr.mono hB0.out.size)
    by_cases hlt : j < n
    · obtain ⟨b, o, x, sv, rfl, hbB, hx, hS, hA⟩ := HR.out j hlt
      obtain ⟨As, cv, rfl, _, _, _⟩ := hS
      obtain ⟨a0, a1, a2, a3, a4, a5, a6, a7, a8, a9, a10, a11⟩ := at12 (hA.below (show b < w.heap.size by omega) hBw)
      have hI2 := hI.out.trans (HI.out j x hx)
      have HOx := Lib.hid (fun (w : World) => HO.out x (.slice As x.vers.length cv) w)
      have hsr := hBr.size
      have kq := k0.out.below hBr k0.out.lt
      have hBx := hBr.alloc hsr (.cells #[.string x.key, .slice As x.vers.length cv, .bool x.locked, .int .i64 x.lock.by_.node, .int .i64 x.lock.by_.life, .int .i64 x.lock.by_.seq, .int .i64 x.lock.by_.att, .int .i64 x.lock.home, .int .i64 x.lock.at_.wall, .int .i64 x.lock.at_.tie, .bool x.lock.drop, .string x.lock.data] 45)
      have kx : Blk 45 (wr.alloc (.cells #[.string x.key, .slice As x.vers.length cv, .bool x.locked, .int .i64 x.lock.by_.node, .int .i64 x.lock.by_.life, .int .i64 x.lock.by_.seq, .int .i64 x.lock.by_.att, .int .i64 x.lock.home, .int .i64 x.lock.at_.wall, .int .i64 x.lock.at_.tie, .bool x.lock.drop, .string x.lock.data] 45)) wr.heap.size [.string x.key, .slice As x.vers.length cv, .bool x.locked, .int .i64 x.lock.by_.node, .int .i64 x.lock.by_.life, .int .i64 x.lock.by_.seq, .int .i64 x.lock.by_.att, .int .i64 x.lock.home, .int .i64 x.lock.at_.wall, .int .i64 x.lock.at_.tie, .bool x.lock.drop, .string x.lock.data] := heap_alloc_new wr _
      have kt := kq.alloc (.cells #[.string x.key, .slice As x.vers.length cv, .bool x.locked, .int .i64 x.lock.by_.node, .int .i64 x.lock.by_.life, .int .i64 x.lock.by_.seq, .int .i64 x.lock.by_.att, .int .i64 x.lock.home, .int .i64 x.lock.at_.wall, .int .i64 x.lock.at_.tie, .bool x.lock.drop, .string x.lock.data] 45)
      clear hI hA hx
      generalize hm : (x.locked && decide (x.lock.by_ = t)) = mb at *
      clear hm
      go_upto_region 4 with (fail)
      clear a0 a1 a2 a3 a4 a5 a6 a7 a8 a9 a10 a11
      generalize (wr.alloc (.cells #[.string x.key, .slice As x.vers.length cv, .bool x.locked, .int .i64 x.lock.by_.node, .int .i64 x.lock.by_.life, .int .i64 x.lock.by_.seq, .int .i64 x.lock.by_.att, .int .i64 x.lock.home, .int .i64 x.lock.at_.wall, .int .i64 x.lock.at_.tie, .bool x.lock.drop, .string x.lock.data] 45)) = y at *
      obtain ⟨g, hg⟩ : ∃ g, wr.heap.size = g := ⟨_, rfl⟩
      rw [hg] at kx ⊢
      obtain ⟨a0, a1, a2, a3, a4, a5, a6, a7, a8, a9, a10, a11⟩ := blk12 kx
      obtain ⟨t0, t1, t2, t3⟩ := blk4 kt
      go_wp2_with fail
      refine (HOx.out _).mono ?_
      rintro e w3 ⟨rfl, hB3⟩
      have hB13 := hBx.trans (hB3.mono hBx.size)
      clear a0 a1 a2 a3 a4 a5 a6 a7 a8 a9 a10 a11 t0 t1 t2 t3
      rcases mb with _ | _
      · have hV := Lib.hid hI2
        clear hI2
        go_wp2_with fail
        go_roundw
        case rel => exact ⟨j + 1, by omega, by go_num, by rw [hV.out]; exact Lib.hid (Bool.false_or _), hB13⟩
        case measure => simp [intOf]; omega
      · have hV := Lib.hid hI2
        clear hI2
        go_wp2_with fail
        go_ret
        exact ⟨by rw [hV.out]; rfl, hB0.out.trans (hB13.mono hB0.out.size)⟩
    · obtain rfl : j = n := by omega
      have hV : Hid (z = false) := by rw [hI.out, List.drop_of_length_le (by rw [HL.out]; exact Nat.le_refl _)]; exact Lib.hid rfl
      clear hI
      go_wp2_with fail
      go_ret
      exact ⟨by rw [hV.out]; rfl, hBw⟩
end Go.Proofs.Ytlkhmpfdajefiaa.mvi
