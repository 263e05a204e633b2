/- What the program's own Power and Copy come to. Conditions: those that each theorem names. -/
import Derived.Test.YtafdgibkhefplaaDsk
import Derived.Test.YtafdgibkhefplaaStep
import Derived.Deep.RegionHeld3
import Derived.IntWalk
namespace Go.Proofs.Ytafdgibkhefplaa.disk
open Go.RowKit Go.Proofs.Ytafdgibkhefplaa.kit Go.Proofs.Ytafdgibkhefplaa.nums Go.Proofs.Ytafdgibkhefplaa.ds Go.Proofs.Ytafdgibkhefplaa.map2
set_option linter.unusedVariables false
/-- Of file f so many bytes are left. -/
def DS.pow1 (T : DS) (f : Int) (x : Nat) : DS := (T.setFile f ((T.file f).take (T.lasts f + x))).setLasts f (T.lasts f + x)
/-- The disk behind f rounds of Power. -/
def DS.powN (S : DS) (zs : List Int) : Nat → DS
  | 0 => S
  | 1 => S.powA zs
  | _ => (S.powA zs).powB zs
theorem powN_next (S : DS) (zs : List Int) (f : Nat) (hf : f < 2) : DS.pow1 (DS.powN S zs f) f (min (DS.keepN zs f) (((DS.powN S zs f).file f).length - (DS.powN S zs f).lasts f)) = DS.powN S zs (f + 1) := by
  match f, hf with
  | 0, _ => rfl
  | 1, _ => rfl
theorem powN_fits {S : DS} (hS : S.Good) (zs : List Int) (f : Nat) (hf : f < 2) : ((DS.powN S zs f).file f).length ≤ 4194304 ∧ (DS.powN S zs f).lasts f ≤ ((DS.powN S zs f).file f).length := by
  match f, hf with
  | 0, _ => exact ⟨hS.na, hS.la⟩
  | 1, _ => exact ⟨hS.nb, hS.lb⟩
set_option maxRecDepth 100000 in
set_option maxHeartbeats 1000000 in
theorem power_any (a : Nat) (S : DS) (fp : Nat → Prop) (w : World) (h : IsDisk w a S fp) (hS : S.Good) (hs : S.stepped ≤ 1000000) (hp : S.powers ≤ 1000000) (K : Option Addr) (n c : Nat) (zs : List Int) (hZ : RdV w w.heap.size K n (zs.map (Value.int .i64))) (hz : ∀ z ∈ zs, -9223372036854775808 ≤ z ∧ z ≤ 9223372036854775807) (hg : 0 < n → ∀ b o, K = some ⟨b, o, none⟩ → ¬ fp b) (hn : n ≤ 1099511627776) :
    Calls Try.prog 24 #[.pointer (some ⟨a, 0, none⟩), .slice K n c] w (RetD w a fp (S.powS zs) (.tuple #[])) := by
  obtain ⟨m, z, xa, xb, h, rfl⟩ := h
  have HI := Lib.hid h
  have C0 := Lib.hid (none_any a m w h.c0)
  have hfit := powN_fits hS zs
  have hnx := powN_next S zs
  clear h
  go_enter Try.func24, Try.ntmps24
  go_wp2_with fail
  refine C0.out.mono ?_
  rintro e w1 ⟨rfl, rfl⟩
  go_wp2_with fail
  go_loopw [9] (fun i wr => ∃ (f : Nat) (xa' xb' : Value), f ≤ 2 ∧ i = .int .i64 f ∧ IsD wr a (DS.powN S zs f) m z xa' xb' ∧ Chg (fpD a m xa xb) (fpD a m xa' xb') w wr) (fun i _ => 2 - (intOf i).toNat)
  case atStart => exact ⟨0, xa, xb, by omega, rfl, HI.out, Chg.rfl_⟩
  case round =>
    obtain ⟨f, xa', xb', hf2, rfl, hr, hC⟩ := hrel
    by_cases hlt : f < 2
    · have hf : (f : Int) = 0 ∨ (f : Int) = 1 := by omega
      obtain ⟨hL4, hd4⟩ := hfit f hlt
      have hnxf := hnx f hlt
      generalize hT' : DS.powN S zs (f + 1) = T' at *
      generalize DS.powN S zs f = T at *
      have hZr : RdV wr wr.heap.size K n (zs.map (Value.int .i64)) := by
        refine ⟨hZ.1, fun hpos => ?_⟩
        obtain ⟨b, o, e, hb, hc⟩ := hZ.2 hpos
        refine ⟨b, o, e, Nat.lt_of_lt_of_le hb hC.size, fun j hj => ?_⟩
        rw [World.cell?_of_block (a := ⟨b, o + j, none⟩) (hC.block b hb (hg hpos b o e))]
        exact hc j hj
      obtain ⟨A1, c1, hv, hc1, hc2, hpk, hO⟩ := file_shape hr hf
      have hl := run_look hr.map under_map Try.underlying3 hf
      rw [hv] at hl
      unfold fileV at hl
      have c0 := hr.c0
      have hmr := hr.map
      have HR := Lib.hid hr
      have HC := Lib.hid hC
      have i0 : (0 : Int) ≤ f ∧ (f : Int) < 2 := by omega
      generalize hF : T.file f = F at *
      generalize hd : T.lasts f = d at *
      generalize hLL : F.length = L at *
      clear hr hC hv hfit hnx
      go_wp2_with fail
      have hB2 : Below wr.heap.size wr (wr.alloc (.cells #[.slice A1 L c1, .int .i64 d] 72)) := ((Below.refl _ _).alloc (Nat.le_refl _) _)
      have hb2 : Blk 72 (wr.alloc (.cells #[.slice A1 L c1, .int .i64 d] 72)) wr.heap.size [.slice A1 L c1, .int .i64 d] := (MapKept.heap_alloc _ _).1
      generalize wr.alloc (.cells #[.slice A1 L c1, .int .i64 d] 72) = w2 at *
      have hga : wr.heap.size ≠ a := by have := HR.out.blk.lt; omega
      have hgm : wr.heap.size ≠ m := by have := hmr.lt; omega
      have hI2 := HR.out.below hB2
      have hO2 := hO.below hB2
      have hRF : Rd w2 w2.heap.size A1 L F := by
        obtain ⟨A', c', e, _, _, hR'⟩ := hO2.slice
        simp only [hLL, Value.slice.injEq] at e hR'
        obtain ⟨rfl, -, rfl⟩ := e
        exact hR'
      have hZ2 : RdV w2 w2.heap.size K n (zs.map (Value.int .i64)) := hZr.on hB2 hB2.size
      generalize hg2 : wr.heap.size = g2 at *
      have hs2 : (w2.cell? ⟨a, 0, none⟩ = some (.map (some m)) ∧ w2.cell? ⟨g2, 0, none⟩ = some (.slice A1 L c1) ∧ w2.cell? ⟨g2, 1, none⟩ = some (.int .i64 d)) := ⟨hI2.c0, by rw [hb2.cell]; rfl, by rw [hb2.cell]; rfl⟩
      have hlt2 : a < w2.heap.size ∧ m < w2.heap.size ∧ g2 < w2.heap.size := ⟨hI2.blk.lt, hI2.map.lt, hb2.lt⟩
      obtain ⟨x, hxe⟩ : ∃ x, min (DS.keepN zs f) (L - d) = x := ⟨_, rfl⟩
      have hxl : d + x ≤ L := by omega
      have CK := Lib.hid (kept_any K n c zs f (L - d) w2.drew hZ2 hz hlt hn (by omega))
      have CO := Lib.hid (own_any A1 L c1 (d + x) F w2.heap.size w2.drew.drew hRF hxl hc1 (by omega) hc2)
      rw [hxe] at CK hnxf
      have hw1 : IntKind.i64.wrap ((L : Int) - (d : Int)) = ((L - d : Nat) : Int) := (IntWalk.i64_in _ ⟨by omega, by omega⟩).trans (by omega)
      have hw2 : IntKind.i64.wrap ((d : Int) + (x : Int)) = ((d + x : Nat) : Int) := (IntWalk.i64_in _ ⟨by omega, by omega⟩).trans (by omega)
      have HK1 := Lib.hid (show ∀ w5, Below w2.heap.size w2.drew.drew w5 → (w5.cell? ⟨a, 0, none⟩ = some (.map (some m)) ∧ w5.cell? ⟨g2, 0, none⟩ = some (.slice A1 L c1) ∧ w5.cell? ⟨g2, 1, none⟩ = some (.int .i64 d)) from fun w5 hB5 => ⟨(hB5.cell (p := ⟨a, 0, none⟩) hlt2.1).trans hs2.1, (hB5.cell (p := ⟨g2, 0, none⟩) hlt2.2.2).trans hs2.2.1, (hB5.cell (p := ⟨g2, 1, none⟩) hlt2.2.2).trans hs2.2.2⟩)
      have HK2 := Lib.hid (show ∀ w5 w6 : World, (w5.cell? ⟨a, 0, none⟩ = some (.map (some m)) ∧ w5.cell? ⟨g2, 0, none⟩ = some (.slice A1 L c1) ∧ w5.cell? ⟨g2, 1, none⟩ = some (.int .i64 d)) → w5.grownBy w6 (some m) → (w6.cell? ⟨a, 0, none⟩ = some (.map (some m)) ∧ w6.cell? ⟨g2, 0, none⟩ = some (.slice A1 L c1) ∧ w6.cell? ⟨g2, 1, none⟩ = some (.int .i64 d)) from fun w5 w6 ⟨s0, s1, s2⟩ hG6 =>
        ⟨cell_grown hG6 s0 (by simpa using HR.out.am.symm), cell_grown hG6 s1 (by simpa using hgm.symm), cell_grown hG6 s2 (by simpa using hgm.symm)⟩)
      have hmp : ∀ w5, Below w2.heap.size w2.drew.drew w5 → IsMap w5 m (fileV xa' T.la) (fileV xb' T.lb) := fun w5 hB5 => hI2.map.keep (hB5.block m hlt2.2.1)
      have HP := Lib.hid (show ∀ w5, Below w2.heap.size w2.drew.drew w5 → ∀ v, ∃ w', (Instr.mapUpdate 68 (.map (some m)) (.int .i64 f) v).run Try.prog w5 = .ok () w' ∧ IsMap w' m (pick f v (fileV xa' T.la)) (pick f (fileV xb' T.lb) v) ∧ w5.grownBy w' (some m) from fun w5 hB5 v => run_put (hmp w5 hB5) under_map Try.underlying3 v hf)
      have HMP := Lib.hid hmp
      have HB2 := Lib.hid hB2
      have hk0 : (0 : Int) ≤ (f : Int) := by omega
      clear hI2 hO2 hRF hZ2 hmp hB2 hb2 hO hl hmr c0 hZr hxe
      refine wp_region_held_drew (S := fun wq => wq.cell? ⟨a, 0, none⟩ = some (.map (some m)) ∧ wq.cell? ⟨g2, 0, none⟩ = some (.slice A1 L c1) ∧ wq.cell? ⟨g2, 1, none⟩ = some (.int .i64 d)) (by kernel_rfl) ?s_0 (fun hHeld => ?_)
      case s_0 => exact hs2
      refine wpAnyH_take (i := 0) (oi := { dst := some 18, op := Go.Op.fieldAddr 72 (Go.Operand.tmp 5) 1, type := 0, pos := "disk.go:87", after := #[], guard := none }) (v := ?v_0_1) rfl (by kernel_rfl) (by kernel_rfl) (by kernel_rfl) (fun _ _ _ h => h) (Or.inl ⟨by rfl, ?y_0_1⟩) (by assumption) ?_
      case y_0_1 => (intro wq hSw; (try dsimp only at hSw); go_simp; first | done | with_reducible rfl)
      try simp only [Act.put, List.setIfInBounds_toArray, List.set_cons_zero, List.set_cons_succ]
      refine wpAnyH_take (i := 1) (oi := { dst := some 19, op := Go.Op.load 3 (Go.Operand.tmp 18), type := 3, pos := "disk.go:87", after := #[{ on := 0, ground := Go.Ground.data }], guard := none }) (v := ?v_1_1) rfl (by kernel_rfl) (by kernel_rfl) (by kernel_rfl) (fun _ _ _ h => h) (Or.inl ⟨by rfl, ?y_1_1⟩) (by assumption) ?_
      case y_1_1 => (intro wq hSw; (try dsimp only at hSw); go_simp; first | done | with_reducible rfl)
      try simp only [Act.put, List.setIfInBounds_toArray, List.set_cons_zero, List.set_cons_succ]
      refine wpAnyH_take (i := 2) (oi := { dst := some 20, op := Go.Op.move (Go.Operand.tmp 1), type := 37, pos := "disk.go:87", after := #[], guard := none }) (v := ?v_2_1) rfl (by kernel_rfl) (by kernel_rfl) (by kernel_rfl) (fun _ _ _ h => h) (Or.inl ⟨by rfl, ?y_2_1⟩) (by assumption) ?_
      case y_2_1 => (intro wq hSw; (try dsimp only at hSw); go_simp; first | done | with_reducible rfl)
      try simp only [Act.put, List.setIfInBounds_toArray, List.set_cons_zero, List.set_cons_succ]
      refine wpAnyH_take (i := 3) (oi := { dst := some 21, op := Go.Op.move (Go.Operand.tmp 4), type := 3, pos := "disk.go:87", after := #[], guard := none }) (v := ?v_3_1) rfl (by kernel_rfl) (by kernel_rfl) (by kernel_rfl) (fun _ _ _ h => h) (Or.inl ⟨by rfl, ?y_3_1⟩) (by assumption) ?_
      case y_3_1 => (intro wq hSw; (try dsimp only at hSw); go_simp; first | done | with_reducible rfl)
      try simp only [Act.put, List.setIfInBounds_toArray, List.set_cons_zero, List.set_cons_succ]
      refine wpAnyH_take (i := 4) (oi := { dst := some 22, op := Go.Op.fieldAddr 72 (Go.Operand.tmp 5) 0, type := 0, pos := "disk.go:87", after := #[], guard := none }) (v := ?v_4_1) rfl (by kernel_rfl) (by kernel_rfl) (by kernel_rfl) (fun _ _ _ h => h) (Or.inl ⟨by rfl, ?y_4_1⟩) (by assumption) ?_
      case y_4_1 => (intro wq hSw; (try dsimp only at hSw); go_simp; first | done | with_reducible rfl)
      try simp only [Act.put, List.setIfInBounds_toArray, List.set_cons_zero, List.set_cons_succ]
      refine wpAnyH_take (i := 5) (oi := { dst := some 23, op := Go.Op.load 35 (Go.Operand.tmp 22), type := 35, pos := "disk.go:87", after := #[{ on := 4, ground := Go.Ground.data }], guard := none }) (v := ?v_5_1) rfl (by kernel_rfl) (by kernel_rfl) (by kernel_rfl) (fun _ _ _ h => h) (Or.inl ⟨by rfl, ?y_5_1⟩) (by assumption) ?_
      case y_5_1 => (intro wq hSw; (try dsimp only at hSw); go_simp; first | done | with_reducible rfl)
      try simp only [Act.put, List.setIfInBounds_toArray, List.set_cons_zero, List.set_cons_succ]
      refine wpAnyH_take (i := 6) (oi := { dst := some 24, op := Go.Op.call { callee := Go.Callee.builtin Go.Builtin.len, args := #[Go.Operand.tmp 23], argTypes := #[35] }, type := 3, pos := "disk.go:87", after := #[{ on := 5, ground := Go.Ground.data }], guard := none }) (v := ?v_6_1) rfl (by kernel_rfl) (by kernel_rfl) (by kernel_rfl) (fun _ _ _ h => h) (Or.inl ⟨by rfl, ?y_6_1⟩) (by assumption) ?_
      case y_6_1 => (intro wq hSw; (try dsimp only at hSw); go_simp; first | done | with_reducible rfl)
      try simp only [Act.put, List.setIfInBounds_toArray, List.set_cons_zero, List.set_cons_succ]
      refine wpAnyH_take (i := 7) (oi := { dst := some 25, op := Go.Op.fieldAddr 72 (Go.Operand.tmp 5) 1, type := 0, pos := "disk.go:87", after := #[], guard := none }) (v := ?v_7_1) rfl (by kernel_rfl) (by kernel_rfl) (by kernel_rfl) (fun _ _ _ h => h) (Or.inl ⟨by rfl, ?y_7_1⟩) (by assumption) ?_
      case y_7_1 => (intro wq hSw; (try dsimp only at hSw); go_simp; first | done | with_reducible rfl)
      try simp only [Act.put, List.setIfInBounds_toArray, List.set_cons_zero, List.set_cons_succ]
      refine wpAnyH_take (i := 8) (oi := { dst := some 26, op := Go.Op.load 3 (Go.Operand.tmp 25), type := 3, pos := "disk.go:87", after := #[{ on := 7, ground := Go.Ground.data }], guard := none }) (v := ?v_8_1) rfl (by kernel_rfl) (by kernel_rfl) (by kernel_rfl) (fun _ _ _ h => h) (Or.inl ⟨by rfl, ?y_8_1⟩) (by assumption) ?_
      case y_8_1 => (intro wq hSw; (try dsimp only at hSw); go_simp; first | done | with_reducible rfl)
      try simp only [Act.put, List.setIfInBounds_toArray, List.set_cons_zero, List.set_cons_succ]
      refine wpAnyH_take (i := 9) (oi := { dst := some 27, op := Go.Op.binOp Go.BinOp.sub 3 (Go.Operand.tmp 24) (Go.Operand.tmp 26) 3, type := 3, pos := "disk.go:87", after := #[{ on := 6, ground := Go.Ground.data }, { on := 8, ground := Go.Ground.data }], guard := none }) (v := ?v_9_1) rfl (by kernel_rfl) (by kernel_rfl) (by kernel_rfl) (fun _ _ _ h => h) (Or.inl ⟨by rfl, ?y_9_1⟩) (by assumption) ?_
      case y_9_1 => (intro wq hSw; (try dsimp only at hSw); go_simp; first | done | with_reducible rfl)
      try simp only [Act.put, List.setIfInBounds_toArray, List.set_cons_zero, List.set_cons_succ]
      refine wpAnyH_ready (rs := [10]) (by kernel_rfl) (by simp) ?_
      refine AllReadyH.cons (o := { dst := some 28, op := Go.Op.call { callee := Go.Callee.value (Go.Operand.func 56), args := #[Go.Operand.tmp 20, Go.Operand.tmp 21, Go.Operand.tmp 27], argTypes := #[37, 3, 3] }, type := 3, pos := "disk.go:87", after := #[{ on := 2, ground := Go.Ground.data }, { on := 3, ground := Go.Ground.data }, { on := 9, ground := Go.Ground.data }], guard := none }) rfl (fun KQ hKQ => ?_) AllReadyH.nil
      go_simp
      refine CK.out.mono ?_
      rintro e w5 ⟨rfl, rfl⟩
      go_wp2_with fail
      refine hKQ.out _ _ ?s_10 (fun hHeld10 => ?_)
      case s_10 => exact hs2
      clear hKQ KQ
      try simp only [Act.put, List.setIfInBounds_toArray, List.set_cons_zero, List.set_cons_succ]
      refine wpAnyH_take (i := 11) (oi := { dst := some 29, op := Go.Op.binOp Go.BinOp.add 3 (Go.Operand.tmp 19) (Go.Operand.tmp 28) 3, type := 3, pos := "disk.go:87", after := #[{ on := 1, ground := Go.Ground.data }, { on := 10, ground := Go.Ground.data }], guard := none }) (v := ?v_11_1) rfl (by kernel_rfl) (by kernel_rfl) (by kernel_rfl) (fun _ _ _ h => h) (Or.inl ⟨by rfl, ?y_11_1⟩) (by assumption) ?_
      case y_11_1 => (intro wq hSw; (try dsimp only at hSw); go_simp; first | done | with_reducible rfl)
      try simp only [Act.put, List.setIfInBounds_toArray, List.set_cons_zero, List.set_cons_succ]
      refine wpAnyH_take (i := 12) (oi := { dst := some 6, op := Go.Op.assign (Go.Operand.tmp 29), type := 3, pos := "disk.go:87", after := #[{ on := 11, ground := Go.Ground.data }, { on := 10, ground := Go.Ground.chain }, { on := 0, ground := Go.Ground.phase }, { on := 1, ground := Go.Ground.phase }, { on := 2, ground := Go.Ground.phase }, { on := 3, ground := Go.Ground.phase }, { on := 4, ground := Go.Ground.phase }, { on := 5, ground := Go.Ground.phase }, { on := 6, ground := Go.Ground.phase }, { on := 7, ground := Go.Ground.phase }, { on := 8, ground := Go.Ground.phase }, { on := 9, ground := Go.Ground.phase }, { on := 10, ground := Go.Ground.phase }, { on := 11, ground := Go.Ground.phase }], guard := none }) (v := ?v_12_1) rfl (by kernel_rfl) (by kernel_rfl) (by kernel_rfl) (fun _ _ _ h => h) (Or.inl ⟨by rfl, ?y_12_1⟩) (by assumption) ?_
      case y_12_1 => (intro wq hSw; (try dsimp only at hSw); go_simp; first | done | with_reducible rfl)
      try simp only [Act.put, List.setIfInBounds_toArray, List.set_cons_zero, List.set_cons_succ]
      refine wpAnyH_done (by kernel_rfl) ?_ _
      go_wp2_with fail
      refine wp_region_held_drew (S := fun wq => wq.cell? ⟨a, 0, none⟩ = some (.map (some m)) ∧ wq.cell? ⟨g2, 0, none⟩ = some (.slice A1 L c1) ∧ wq.cell? ⟨g2, 1, none⟩ = some (.int .i64 d)) (by kernel_rfl) ?s_0 (fun hHeld => ?_)
      case s_0 => exact hs2
      clear hs2
      refine wpAnyH_take (i := 0) (oi := { dst := some 30, op := Go.Op.move (Go.Operand.tmp 0), type := 26, pos := "disk.go:88", after := #[], guard := none }) (v := ?v_0_2) rfl (by kernel_rfl) (by kernel_rfl) (by kernel_rfl) (fun _ _ _ h => h) (Or.inl ⟨by rfl, ?y_0_2⟩) (by assumption) ?_
      case y_0_2 => (intro wq hSw; (try dsimp only at hSw); go_simp; first | done | with_reducible rfl)
      try simp only [Act.put, List.setIfInBounds_toArray, List.set_cons_zero, List.set_cons_succ]
      refine wpAnyH_take (i := 1) (oi := { dst := some 31, op := Go.Op.nilCheck (Go.Operand.tmp 30), type := 0, pos := "disk.go:88", after := #[{ on := 0, ground := Go.Ground.data }], guard := none }) (v := ?v_1_2) rfl (by kernel_rfl) (by kernel_rfl) (by kernel_rfl) (fun _ _ _ h => h) (Or.inl ⟨by rfl, ?y_1_2⟩) (by assumption) ?_
      case y_1_2 => (intro wq hSw; (try dsimp only at hSw); go_simp; first | done | with_reducible rfl)
      try simp only [Act.put, List.setIfInBounds_toArray, List.set_cons_zero, List.set_cons_succ]
      refine wpAnyH_take (i := 2) (oi := { dst := some 32, op := Go.Op.fieldAddr 70 (Go.Operand.tmp 31) 0, type := 0, pos := "disk.go:88", after := #[{ on := 1, ground := Go.Ground.data }], guard := none }) (v := ?v_2_2) rfl (by kernel_rfl) (by kernel_rfl) (by kernel_rfl) (fun _ _ _ h => h) (Or.inl ⟨by rfl, ?y_2_2⟩) (by assumption) ?_
      case y_2_2 => (intro wq hSw; (try dsimp only at hSw); go_simp; first | done | with_reducible rfl)
      try simp only [Act.put, List.setIfInBounds_toArray, List.set_cons_zero, List.set_cons_succ]
      refine wpAnyH_take (i := 3) (oi := { dst := some 33, op := Go.Op.load 68 (Go.Operand.tmp 32), type := 68, pos := "disk.go:88", after := #[{ on := 2, ground := Go.Ground.data }], guard := none }) (v := ?v_3_2) rfl (by kernel_rfl) (by kernel_rfl) (by kernel_rfl) (fun _ _ _ h => h) (Or.inl ⟨by rfl, ?y_3_2⟩) (by assumption) ?_
      case y_3_2 => (intro wq hSw; (try dsimp only at hSw); go_simp; first | done | with_reducible rfl)
      try simp only [Act.put, List.setIfInBounds_toArray, List.set_cons_zero, List.set_cons_succ]
      refine wpAnyH_take (i := 4) (oi := { dst := some 34, op := Go.Op.move (Go.Operand.tmp 4), type := 3, pos := "disk.go:88", after := #[], guard := none }) (v := ?v_4_2) rfl (by kernel_rfl) (by kernel_rfl) (by kernel_rfl) (fun _ _ _ h => h) (Or.inl ⟨by rfl, ?y_4_2⟩) (by assumption) ?_
      case y_4_2 => (intro wq hSw; (try dsimp only at hSw); go_simp; first | done | with_reducible rfl)
      try simp only [Act.put, List.setIfInBounds_toArray, List.set_cons_zero, List.set_cons_succ]
      refine wpAnyH_take (i := 5) (oi := { dst := some 35, op := Go.Op.fieldAddr 72 (Go.Operand.tmp 5) 0, type := 0, pos := "disk.go:88", after := #[], guard := none }) (v := ?v_5_2) rfl (by kernel_rfl) (by kernel_rfl) (by kernel_rfl) (fun _ _ _ h => h) (Or.inl ⟨by rfl, ?y_5_2⟩) (by assumption) ?_
      case y_5_2 => (intro wq hSw; (try dsimp only at hSw); go_simp; first | done | with_reducible rfl)
      try simp only [Act.put, List.setIfInBounds_toArray, List.set_cons_zero, List.set_cons_succ]
      refine wpAnyH_take (i := 6) (oi := { dst := some 36, op := Go.Op.load 35 (Go.Operand.tmp 35), type := 35, pos := "disk.go:88", after := #[{ on := 5, ground := Go.Ground.data }], guard := none }) (v := ?v_6_2) rfl (by kernel_rfl) (by kernel_rfl) (by kernel_rfl) (fun _ _ _ h => h) (Or.inl ⟨by rfl, ?y_6_2⟩) (by assumption) ?_
      case y_6_2 => (intro wq hSw; (try dsimp only at hSw); go_simp; first | done | with_reducible rfl)
      try simp only [Act.put, List.setIfInBounds_toArray, List.set_cons_zero, List.set_cons_succ]
      refine wpAnyH_take (i := 7) (oi := { dst := some 37, op := Go.Op.move (Go.Operand.tmp 6), type := 3, pos := "disk.go:88", after := #[], guard := none }) (v := ?v_7_2) rfl (by kernel_rfl) (by kernel_rfl) (by kernel_rfl) (fun _ _ _ h => h) (Or.inl ⟨by rfl, ?y_7_2⟩) (by assumption) ?_
      case y_7_2 => (intro wq hSw; (try dsimp only at hSw); go_simp; first | done | with_reducible rfl)
      try simp only [Act.put, List.setIfInBounds_toArray, List.set_cons_zero, List.set_cons_succ]
      refine wpAnyH_take (i := 9) (oi := { dst := some 39, op := Go.Op.move (Go.Operand.tmp 6), type := 3, pos := "disk.go:88", after := #[], guard := none }) (v := ?v_9_2) rfl (by kernel_rfl) (by kernel_rfl) (by kernel_rfl) (fun _ _ _ h => h) (Or.inl ⟨by rfl, ?y_9_2⟩) (by assumption) ?_
      case y_9_2 => (intro wq hSw; (try dsimp only at hSw); go_simp; first | done | with_reducible rfl)
      try simp only [Act.put, List.setIfInBounds_toArray, List.set_cons_zero, List.set_cons_succ]
      refine wpAnyH_ready (rs := [8]) (by kernel_rfl) (by simp) ?_
      refine AllReadyH.cons (o := { dst := some 38, op := Go.Op.call { callee := Go.Callee.value (Go.Operand.func 57), args := #[Go.Operand.tmp 36, Go.Operand.tmp 37], argTypes := #[35, 3] }, type := 35, pos := "disk.go:88", after := #[{ on := 6, ground := Go.Ground.data }, { on := 7, ground := Go.Ground.data }], guard := none }) rfl (fun KQ hKQ => ?_) AllReadyH.nil
      go_simp
      refine CO.out.mono ?_
      rintro e w5 ⟨A5, c5, rfl, hl5, hO5, hB5⟩
      have hs5 := HK1.out w5 hB5
      go_wp2_with fail
      refine hKQ.out _ _ ?s_8 (fun hHeld8 => ?_)
      case s_8 => exact hs5
      clear hKQ KQ
      try simp only [Act.put, List.setIfInBounds_toArray, List.set_cons_zero, List.set_cons_succ]
      refine wpAnyH_take (i := 10) (oi := { dst := some 40, op := Go.Op.build 72 #[(0, Go.Operand.tmp 38), (1, Go.Operand.tmp 39)], type := 72, pos := "disk.go:88", after := #[{ on := 8, ground := Go.Ground.data }, { on := 9, ground := Go.Ground.data }], guard := none }) (v := ?v_10_2) rfl (by kernel_rfl) (by kernel_rfl) (by kernel_rfl) (fun _ _ _ h => h) (Or.inl ⟨by rfl, ?y_10_2⟩) (by assumption) ?_
      case y_10_2 => (intro wq hSw; (try dsimp only at hSw); go_simp; first | done | with_reducible rfl)
      try simp only [Act.put, List.setIfInBounds_toArray, List.set_cons_zero, List.set_cons_succ]
      refine wpAnyH_ready (rs := [11]) (by kernel_rfl) (by simp) ?_
      refine AllReadyH.cons (o := { dst := none, op := Go.Op.mapUpdate 68 (Go.Operand.tmp 33) (Go.Operand.tmp 34) (Go.Operand.tmp 40), type := 0, pos := "disk.go:88", after := #[{ on := 3, ground := Go.Ground.data }, { on := 4, ground := Go.Ground.data }, { on := 10, ground := Go.Ground.data }, { on := 8, ground := Go.Ground.chain }, { on := 0, ground := Go.Ground.phase }, { on := 1, ground := Go.Ground.phase }, { on := 2, ground := Go.Ground.phase }, { on := 3, ground := Go.Ground.phase }, { on := 4, ground := Go.Ground.phase }, { on := 5, ground := Go.Ground.phase }, { on := 6, ground := Go.Ground.phase }, { on := 7, ground := Go.Ground.phase }, { on := 8, ground := Go.Ground.phase }, { on := 9, ground := Go.Ground.phase }, { on := 10, ground := Go.Ground.phase }], guard := none }) rfl (fun KQ hKQ => ?_) AllReadyH.nil
      refine step_put rfl _ _ _ _ rfl _ _ _ rfl rfl rfl _ (HP.out w5 hB5 _) ?_
      rintro w6 ⟨hM6, hG6⟩
      have hs6 := HK2.out w5 w6 hs5 hG6
      refine hKQ.out _ _ ?s_11 (fun hHeld11 => ?_)
      case s_11 => exact hs6
      clear hKQ KQ
      try simp only [Act.put]
      refine wpAnyH_done (by kernel_rfl) ?_ _
      go_wp2_with fail
      obtain ⟨hI6, hC6⟩ := HR.out.put hf (v := .slice A5 (d + x) c5) (d := d + x) (l := F.take (d + x)) (w' := w6) ⟨hG6.os.trans (hB5.os.trans HB2.out.os), hG6.tape.trans (hB5.tape.trans HB2.out.tape), hG6.output.trans (hB5.output.trans HB2.out.output), by have h1 := HB2.out.size; have h2 := hB5.size; have h3 := hG6.size; rw [hg2]; exact Nat.le_trans (by rw [← hg2]; exact h1) (Nat.le_trans h2 h3),
          fun k hk hkm _ => ((hG6.block k (Nat.lt_of_lt_of_le hk (Nat.le_trans HB2.out.size hB5.size)) (by simpa using hkm)).trans (hB5.block k (Nat.lt_of_lt_of_le hk HB2.out.size))).trans (HB2.out.block k (by rw [← hg2]; exact hk))⟩ hM6
        (own_keep (hO5.more (Nat.zero_le _)) (fun k e => hG6.block k (hO5.lt k e).2 (fun e' => own_not_map hO5 (HMP.out w5 hB5) (by rw [e, e'])))) (fun k e => .inr (Nat.le_trans HB2.out.size (hO5.lt k e).1))
      have HI6 := Lib.hid hI6
      have HC6 := Lib.hid (HC.out.trans hC6)
      clear hI6 hC6
      go_roundw
      case rel =>
        refine ⟨f + 1, _, _, by omega, by go_num, ?_, HC6.out⟩
        have := HI6.out
        unfold DS.pow1 at hnxf
        rw [hF, hd] at hnxf
        rw [hnxf] at this
        rw [hT']
        exact this
      case measure => simp [intOf]; omega
    · obtain rfl : f = 2 := by omega
      have c1 := hr.c1
      have c2 := hr.c2
      have c3 := hr.c3
      have hfr := fun i => hr.blk.frozen i
      have HR := Lib.hid hr
      have HC := Lib.hid hC
      clear hr hC hZ hz hg hfit hnx
      have hT : (DS.powN S zs 2).powers = S.powers := rfl
      rw [hT] at c3
      go_wp2_with fail
      go_end0
      refine ⟨_, rfl, ⟨m, -1, xa', xb', ?_, rfl⟩, HC.out.trans (Chg.of_grown (grown_more (grown_more (below_of_set (Below.refl _ _) HR.out.blk.lt _ _) _ _) _ _) (.inl rfl))⟩
      exact (((HR.out.set (S' := { DS.powN S zs 2 with off := false }) (z' := z) 1 _ (by simp [cellsD]) rfl rfl rfl rfl HR.out.arms HR.out.wf).set (S' := { DS.powN S zs 2 with off := false, arms := -1 }) (z' := -1) 2 _ (by simp [cellsD]) rfl rfl rfl rfl (.inr ⟨by omega, rfl⟩) (by omega)).set (S' := S.powS zs) (z' := -1) 3 _ (by simp [cellsD, DS.powS, DS.powN]) rfl rfl rfl rfl (.inr ⟨by omega, rfl⟩) (by omega))
/-- A copy under way: its struct at c, its map at m2, of which f keys are filled. -/
structure Half (w : World) (B c : Nat) (S : DS) (m2 : Nat) (z : Int) (f : Nat) (xa xb : Value) : Prop where
  blk : Blk 70 w c (cellsD m2 S z)
  map : MapN w m2 f (fileV xa S.la) (fileV xb S.lb)
  oa : 1 ≤ f → Own 5 w B xa S.a
  ob : 2 ≤ f → Own 5 w B xb S.b
  apart : 2 ≤ f → ∀ k, xa.ownBlock = some k → xb.ownBlock ≠ some k
end Go.Proofs.Ytafdgibkhefplaa.disk
