/- EntriesTurns' walk: what becomes of a log that is pushed, merged, compacted is the document's, and what was handed in is as it was. Conditions: none. -/
import Derived.Test.YteadkgjikaikjaaLwA12
import Derived.Test.YteadkgjikaikjaaLwB12
import Derived.Test.YteadkgjikaikjaaLwW12
import Derived.Test.YteadkgjikaikjaaRefG12
import Derived.Test.YteadkgjikaikjaaRefGc12
import Derived.Test.YteadkgjikaikjaaRefHb12
import Derived.Test.YteadkgjikaikjaaRefK12
import Derived.Test.YteadkgjikaikjaaRefL12
import Derived.Test.YteadkgjikaikjaaRefM12
import Derived.Test.YteadkgjikaikjaaEntJ
import Derived.Test.YteadkgjikaikjaaEntK
import Derived.Test.YteadkgjikaikjaaEntL
import Derived.Test.YteadkgjikaikjaaRm12
import Derived.Test.YteadkgjikaikjaaTail
import Derived.Test.YteadkgjikaikjaaEqE12
import Derived.Test.YteadkgjikaikjaaKitLg
import Derived.Test.YteadkgjikaikjaaTk
import Derived.Deep.RegionHeld3
import Derived.Deep.Cut
import Derived.Lib.Hide
namespace Go.Proofs.Yteadkgjikaikjaa.law12
open Go Go.RowKit Go.Proofs.Yteadkgjikaikjaa.kit Go.Proofs.Yteadkgjikaikjaa.nums Go.Proofs.Yteadkgjikaikjaa.cf Go.Proofs.Yteadkgjikaikjaa.lg
set_option linter.unusedVariables false
/-- What the last lines of a turn read. -/
structure TrnS (gL gW gE gA gM gN gC gD gR : Nat) (L PU M C : LgL) (x : EnL) (n cc : Nat) (Aw : Option Addr) (cw : Nat) (A1 : Option Addr) (c1 : Nat) (Am : Option Addr) (nm cm : Nat) (An : Option Addr) (nn cn : Nat) (Ac : Option Addr) (nc c3 : Nat) (Ad : Option Addr) (nd cd : Nat) (wq : World) : Prop where
  sl : Blk 30 wq gL (lgC L (.slice (some ⟨gR, 0, none⟩) n cc))
  sw : Blk 30 wq gW (lgC L (.slice Aw n cw))
  se : Blk 37 wq gE (enC x)
  sa : Blk 30 wq gA (lgC PU (.slice A1 (n + 1) c1))
  sm : Blk 30 wq gM (lgC M (.slice Am nm cm))
  sn : Blk 30 wq gN (lgC M (.slice An nn cn))
  sc : Blk 30 wq gC (lgC C (.slice Ac nc c3))
  sd : Blk 30 wq gD (lgC C (.slice Ad nd cd))
  l13 : wq.cell? ⟨gL, 13, none⟩ = some (.slice (some ⟨gR, 0, none⟩) n cc)
  w13 : wq.cell? ⟨gW, 13, none⟩ = some (.slice Aw n cw)
  z : At wq gR (n * 14) (enC zE)
theorem TrnS.cells {gL gW gE gA gM gN gC gD gR : Nat} {L PU M C : LgL} {x : EnL} {n cc : Nat} {Aw : Option Addr} {cw : Nat} {A1 : Option Addr} {c1 : Nat} {Am : Option Addr} {nm cm : Nat} {An : Option Addr} {nn cn : Nat} {Ac : Option Addr} {nc c3 : Nat} {Ad : Option Addr} {nd cd : Nat} {wq : World} (h : TrnS gL gW gE gA gM gN gC gD gR L PU M C x n cc Aw cw A1 c1 Am nm cm An nn cn Ac nc c3 Ad nd cd wq) : wq.cell? ⟨gL, 13, none⟩ = some (.slice (some ⟨gR, 0, none⟩) n cc) ∧ wq.cell? ⟨gW, 13, none⟩ = some (.slice Aw n cw) := ⟨h.l13, h.w13⟩
theorem zE_at {n cc : Nat} {es : List EnL} (h : es.length = n) (hc : cc = n + 2) : (es ++ List.replicate (cc - n) zE)[n]? = some zE := by
  rw [List.getElem?_append_right (by omega), h, Nat.sub_self, List.getElem?_replicate, if_pos (by omega)]
theorem same_self (M : LgL) (A : Option Addr) (n c : Nat) (A2 : Option Addr) (n2 c2 : Nat) (w : World) (hR : RdE w w.heap.size A n M.es) (hR2 : RdE w w.heap.size A2 n2 M.es) (hn : n ≤ 1099511627776) : Calls Try.prog 32 #[lgV M (.slice A n c), lgV M (.slice A2 n2 c2)] w fun e w' => e = .returned (.bool true) ∧ Below w.heap.size w w' := by
  have h := ref12.rsame_any M M A n c A2 n2 c2 w w.heap.size w.heap.size hR (Nat.le_refl _) hR2 (Nat.le_refl _) hn
  rw [eqL_self] at h
  exact h
/-- The entry that is zero, built, in a drawn region. -/
theorem run_bz {w : World} {a : Act} {o : Oper} (ho : o.op = .build 37 #[]) : (execOp a.eval o).run Try.prog w = .ok (.value (enV zE)) w := by
  have h : (Instr.build 37 #[]).run Try.prog w = .ok (enV zE) w := by kernel_rfl
  unfold execOp
  simp [ho, h]
/-- The comparison of two entries that are zero, in a drawn region. -/
theorem run_nz {w : World} {a : Act} {o : Oper} {p q : Operand} (ho : o.op = .binOp .neq 37 p q 37) (hp : a.eval p = enV zE) (hq : a.eval q = enV zE) : (execOp a.eval o).run Try.prog w = .ok (.value (.bool false)) w := by
  have h1 := neq_en zE zE w
  rw [eqE_self, Bool.not_true] at h1
  have h2 : (eqGuard .neq 37 p q (enV zE) (enV zE)).run Try.prog w = .ok () w := by kernel_rfl
  unfold execOp
  simp [ho, hp, hq, h1, h2]
set_option maxHeartbeats 4000000 in
set_option maxRecDepth 10000 in
theorem turns_walk (L : LgL) (A : Option Addr) (n c : Nat) (x : EnL) (prev tm : Int) (A2 : Option Addr) (n2 c2 : Nat) (es2 : List EnL) (zt : Int) (w : World) (hR : RdE w w.heap.size A n L.es) (hc : n ≤ c) (hE : RdE w w.heap.size A2 n2 es2) (hc2 : n2 ≤ c2) : Calls Try.prog 4 #[lgV L (.slice A n c), enV x, .int .i64 prev, .int .i64 tm, .slice A2 n2 c2, .int .i64 zt] w fun e w' => e = .returned (.bool true) ∧ Below w.heap.size w w' := by
  have HR := Lib.hid hR
  have HE := Lib.hid hE
  have hlh := Lib.hid hR.1
  have HMy : Hid (mayF L = true → n ≤ 60 → Fit L) := fun h1 h2 => fit_may h1 (by rw [hR.1]; omega)
  have R0 := hR
  have E0 := hE
  clear hR hE
  generalize hmy : mayF L = my at *
  replace hmy := Lib.hid hmy
  go_enter Try.func4, Try.ntmps4
  go_wp2_with (refine kit.box_L rfl _ rfl L (.slice A n c) rfl ?_)
  intro y1 kL e1 s1
  clear s1
  have HB := e1
  replace R0 := R0.on e1 e1.size
  replace E0 := E0.on e1 e1.size
  clear e1
  go_wp2_with (refine kit.box_E rfl _ rfl x rfl ?_)
  intro y2 kE e2 s2
  clear s2
  have LTkLkE := Lib.hid kL.lt
  replace HB := HB.trans (e2.mono HB.size)
  replace kL := kL.below e2 kL.lt
  replace R0 := R0.on e2 e2.size
  replace E0 := E0.on e2 e2.size
  clear e2
  generalize y1.heap.size = gkE at *
  go_wp2_with (first | refine kit.lo_L _ rfl rfl rfl kL ?_ | refine kit.lo_E _ rfl rfl rfl kE ?_)
  have CC := begun_any y2
  refine (CC).mono ?_
  rintro e y3 ⟨rfl, hY⟩
  replace HB := HB.trans (hY.mono HB.size)
  replace kL := kL.below hY kL.lt
  replace kE := kE.below hY kE.lt
  replace R0 := R0.on hY hY.size
  replace E0 := E0.on hY hY.size
  clear hY
  clear CC
  go_wp2_with (first | refine kit.lo_L _ rfl rfl rfl kL ?_ | refine kit.lo_E _ rfl rfl rfl kE ?_)
  have CC := light_any L A n c A2 n2 c2 es2 y3 y3.heap.size y3.heap.size R0 (Nat.le_refl _) E0 (Nat.le_refl _)
  refine CC.mono ?_
  rintro e y4 ⟨bl, rfl, hbl, hY⟩
  replace HB := HB.trans (hY.mono HB.size)
  replace kL := kL.below hY kL.lt
  replace kE := kE.below hY kE.lt
  replace R0 := R0.on hY hY.size
  replace E0 := E0.on hY hY.size
  clear hY
  clear CC
  rcases bl with _ | _
  · skip
    go_wp2_with (first | refine kit.lo_L _ rfl rfl rfl kL ?_ | refine kit.lo_E _ rfl rfl rfl kE ?_)
    go_ret
    exact ⟨rfl, HB⟩
  obtain ⟨hn60, hm60⟩ := hbl.out rfl
  clear hbl
  go_wp2_with (first | refine kit.lo_L _ rfl rfl rfl kL ?_ | refine kit.lo_E _ rfl rfl rfl kE ?_)
  have CC := ref12.rmay_any L A n c y4 y4.heap.size R0 (Nat.le_refl _) (by omega)
  rw [hmy.out] at CC
  refine (CC).mono ?_
  rintro e y5 ⟨rfl, hY⟩
  replace HB := HB.trans (hY.mono HB.size)
  replace kL := kL.below hY kL.lt
  replace kE := kE.below hY kE.lt
  replace R0 := R0.on hY hY.size
  replace E0 := E0.on hY hY.size
  clear hY
  clear CC
  rcases my with _ | _
  · skip
    go_wp2_with (first | refine kit.lo_L _ rfl rfl rfl kL ?_ | refine kit.lo_E _ rfl rfl rfl kE ?_)
    go_ret
    exact ⟨rfl, HB⟩
  have HF := Lib.hid (HMy.out rfl hn60)
  clear HMy
  have cE2 : _ = some (Value.string x.d) := kE.cell 2
  by_cases hd : (200 : Int) < (x.d.size : Int)
  · skip
    go_wp2_with (first | refine kit.lo_L _ rfl rfl rfl kL ?_ | refine kit.lo_E _ rfl rfl rfl kE ?_)
    go_ret
    exact ⟨rfl, HB⟩
  go_wp2_with (first | refine kit.lo_L _ rfl rfl rfl kL ?_ | refine kit.lo_E _ rfl rfl rfl kE ?_)
  clear cE2 hd
  have hgc := kL.lt
  have CC := ref12.rcopy_any L A n c y5 y5.heap.size R0 (Nat.le_refl _) hc HF.out
  refine CC.mono ?_
  rintro e y6 ⟨Aw, cw, rfl, hOw, hY⟩
  replace HB := HB.trans (hY.mono HB.size)
  replace kL := kL.below hY kL.lt
  replace kE := kE.below hY kE.lt
  replace R0 := R0.on hY hY.size
  replace E0 := E0.on hY hY.size
  clear hY
  clear CC
  have hWN : Hid (∀ b o, 0 < n → Aw = some ⟨b, o, none⟩ → b ≠ w.heap.size) := fun b o _ e => Nat.ne_of_gt (Nat.lt_of_lt_of_le hgc (hOw.blk_lt b o e).1)
  clear hgc
  have RW := hOw.cap.2.2.2
  have cwh := Lib.hid hOw.cap.2.1
  clear hOw
  have lkL := kL.lt
  have lkE := kE.lt
  have t7 := Below.refl y6.heap.size y6
  go_wp2_with (first | refine kit.al_L rfl rfl ?_ | (first | refine kit.lo_L _ rfl rfl rfl kL ?_ | refine kit.lo_E _ rfl rfl rfl kE ?_))
  intro x8 zkW e8 s8
  replace kL := kL.below e8 kL.lt
  replace kE := kE.below e8 kE.lt
  have lekW := t7.size
  replace t7 := t7.trans (e8.mono t7.size)
  go_wp2_with (refine kit.st_L rfl _ _ rfl L Aw n cw rfl rfl _ zkW rfl ?_)
  intro y9 kW p9
  replace kL := kL.put p9 (Nat.ne_of_lt (Nat.lt_of_lt_of_le lkL lekW))
  replace kE := kE.put p9 (Nat.ne_of_lt (Nat.lt_of_lt_of_le lkE lekW))
  replace t7 := p9.below _ _ t7 lekW
  have NEkLkW := Lib.hid (Nat.ne_of_gt (Nat.lt_of_lt_of_le lkL lekW))
  have LTkLkW := Lib.hid (Nat.lt_of_lt_of_le lkL lekW)
  have NEkEkW := Lib.hid (Nat.ne_of_gt (Nat.lt_of_lt_of_le lkE lekW))
  have LTkEkW := Lib.hid (Nat.lt_of_lt_of_le lkE lekW)
  replace R0 := R0.on t7 t7.size
  replace E0 := E0.on t7 t7.size
  replace RW := RW.on t7 t7.size
  replace HB := HB.trans (t7.mono HB.size)
  clear lkL lkE s8 e8 lekW t7
  generalize y6.heap.size = gkW at *
  try clear zkW
  obtain ⟨cc, hcc⟩ : ∃ q : Nat, q = n + 2 := ⟨_, rfl⟩
  have w2 : IntKind.i64.wrap ((n : Int) + 2) = (cc : Int) := by rw [kit.wrap_sm (by omega) (by omega)]; omega
  replace hcc := Lib.hid hcc
  replace hn60 := Lib.hid hn60
  replace hm60 := Lib.hid hm60
  clear R0
  go_upto_region 6 with (first | refine kit.lo_L _ rfl rfl rfl kL ?_ | refine kit.lo_E _ rfl rfl rfl kE ?_ | refine kit.lo_L _ rfl rfl rfl kW ?_)
  refine tail.region (S := fun wq => wq.cell? ⟨w.heap.size, 13, none⟩ = some (.slice A n c)) [9] (by kernel_rfl) (kL.drew.cell 13) (fun hHeld => ?_)
  have hD := (Below.refl y9.heap.size y9).drew
  replace HB := HB.trans (hD.mono HB.size)
  replace kL := kL.below hD kL.lt
  replace kE := kE.below hD kE.lt
  replace kW := kW.below hD kW.lt
  replace E0 := E0.on hD hD.size
  replace RW := RW.on hD hD.size
  clear hD
  generalize y9.drew = yD at *
  have sS := kL.cell 13
  refine tail.take (i := 0) (oi := { dst := some 45, op := .fieldAddr 30 (.tmp 6) 3, type := 0, pos := "law.go:62", after := #[], guard := none }) (v := ?v_0_1) rfl (by kernel_rfl) (by kernel_rfl) (by kernel_rfl) (fun _ _ _ h => h) (Or.inl ⟨by rfl, ?y_0_1⟩) (by assumption) (by kernel_rfl) (by kernel_rfl) ?_
  case y_0_1 => (intro wq hSw; (try dsimp only at hSw); go_simp; first | done | with_reducible rfl)
  try simp only [Act.put, List.setIfInBounds_toArray, List.set_cons_zero, List.set_cons_succ]
  refine tail.take (i := 1) (oi := { dst := some 46, op := .load 28 (.tmp 45), type := 28, pos := "law.go:62", after := #[{ on := 0, ground := .data }], guard := none }) (v := ?v_1_1) rfl (by kernel_rfl) (by kernel_rfl) (by kernel_rfl) (fun _ _ _ h => h) (Or.inl ⟨by rfl, ?y_1_1⟩) (by assumption) (by kernel_rfl) (by kernel_rfl) ?_
  case y_1_1 => (intro wq hSw; (try dsimp only at hSw); go_simp; first | done | with_reducible rfl)
  try simp only [Act.put, List.setIfInBounds_toArray, List.set_cons_zero, List.set_cons_succ]
  refine tail.take (i := 2) (oi := { dst := some 47, op := .call { callee := .builtin .len, args := #[.tmp 46], argTypes := #[28] }, type := 3, pos := "law.go:62", after := #[{ on := 1, ground := .data }], guard := none }) (v := ?v_2_1) rfl (by kernel_rfl) (by kernel_rfl) (by kernel_rfl) (fun _ _ _ h => h) (Or.inl ⟨by rfl, ?y_2_1⟩) (by assumption) (by kernel_rfl) (by kernel_rfl) ?_
  case y_2_1 => (intro wq hSw; (try dsimp only at hSw); go_simp; first | done | with_reducible rfl)
  try simp only [Act.put, List.setIfInBounds_toArray, List.set_cons_zero, List.set_cons_succ]
  refine tail.take (i := 3) (oi := { dst := some 48, op := .binOp .add 3 (.tmp 47) (.const (.int .i64 2)) 3, type := 3, pos := "law.go:62", after := #[{ on := 2, ground := .data }], guard := none }) (v := ?v_3_1) rfl (by kernel_rfl) (by kernel_rfl) (by kernel_rfl) (fun _ _ _ h => h) (Or.inl ⟨by rfl, ?y_3_1⟩) (by assumption) (by kernel_rfl) (by kernel_rfl) ?_
  case y_3_1 => (intro wq hSw; (try dsimp only at hSw); go_simp; first | done | with_reducible rfl)
  try simp only [Act.put, List.setIfInBounds_toArray, List.set_cons_zero, List.set_cons_succ]
  refine tail.take (i := 5) (oi := { dst := some 50, op := .fieldAddr 30 (.tmp 6) 3, type := 0, pos := "law.go:62", after := #[], guard := none }) (v := ?v_5_1) rfl (by kernel_rfl) (by kernel_rfl) (by kernel_rfl) (fun _ _ _ h => h) (Or.inl ⟨by rfl, ?y_5_1⟩) (by assumption) (by kernel_rfl) (by kernel_rfl) ?_
  case y_5_1 => (intro wq hSw; (try dsimp only at hSw); go_simp; first | done | with_reducible rfl)
  try simp only [Act.put, List.setIfInBounds_toArray, List.set_cons_zero, List.set_cons_succ]
  refine tail.take (i := 6) (oi := { dst := some 51, op := .load 28 (.tmp 50), type := 28, pos := "law.go:62", after := #[{ on := 5, ground := .data }], guard := none }) (v := ?v_6_1) rfl (by kernel_rfl) (by kernel_rfl) (by kernel_rfl) (fun _ _ _ h => h) (Or.inl ⟨by rfl, ?y_6_1⟩) (by assumption) (by kernel_rfl) (by kernel_rfl) ?_
  case y_6_1 => (intro wq hSw; (try dsimp only at hSw); go_simp; first | done | with_reducible rfl)
  try simp only [Act.put, List.setIfInBounds_toArray, List.set_cons_zero, List.set_cons_succ]
  refine tail.next (i := 4) (o := { dst := some 49, op := .makeSlice 28 (.const (.int .i64 0)) (.tmp 48), type := 28, pos := "law.go:62", after := #[{ on := 3, ground := .data }], guard := none }) rfl (by kernel_rfl) (fun KQ hKQ => ?_)
  refine step_mkR rfl _ _ 28 rfl _ _ rfl rfl _ (run_mk yD .i64 .i64 cc (by have := hcc.out; have := hn60.out; omega)) ?_
  rintro v z1 ⟨rfl, kR, hX⟩
  have RWl := RW.below hX
  have LTkLkR := Lib.hid kL.lt
  have LTkEkR := Lib.hid kE.lt
  have LTkWkR := Lib.hid kW.lt
  replace HB := HB.trans (hX.mono HB.size)
  replace kL := kL.below hX kL.lt
  replace kE := kE.below hX kE.lt
  replace kW := kW.below hX kW.lt
  replace E0 := E0.on hX hX.size
  clear hX
  clear sS
  have sS := kL.cell 13
  refine hKQ.out _ _ ?s_4 ?_
  case s_4 => exact .inr (kL.cell 13)
  clear hKQ KQ
  try simp only [Act.put, List.setIfInBounds_toArray, List.set_cons_zero, List.set_cons_succ]
  refine tail.next (i := 7) (o := { dst := some 52, op := .call { callee := .builtin .append, args := #[.tmp 49, .tmp 51], argTypes := #[28, 28] }, type := 28, pos := "law.go:62", after := #[{ on := 4, ground := .data }, { on := 6, ground := .data }], guard := none }) rfl (by kernel_rfl) (fun KQ hKQ => ?_)
  refine step_appR rfl _ _ 28 rfl _ _ rfl rfl _ (run_room z1 _ yD.heap.size cc A n c z1.heap.size L.es kR (HR.out.on HB HB.size) (by have := hcc.out; omega)) ?_
  rintro v z2 ⟨rfl, kR2, pR⟩
  replace kL := kL.put pR (Nat.ne_of_lt LTkLkR.out)
  replace kE := kE.put pR (Nat.ne_of_lt LTkEkR.out)
  replace kW := kW.put pR (Nat.ne_of_lt LTkWkR.out)
  have RW2 := RWl.put pR (Nat.le_refl _)
  replace HB := pR.below _ _ HB (Nat.le_of_lt LTkLkR.out)
  have E2 := HE.out.on HB HB.size
  clear kR RW RWl pR E0 sS
  have sS := kL.cell 13
  refine hKQ.out _ _ ?s_7 ?_
  case s_7 => exact .inr (kL.cell 13)
  clear hKQ KQ
  try simp only [Act.put, List.setIfInBounds_toArray, List.set_cons_zero, List.set_cons_succ]
  refine tail.take (i := 8) (oi := { dst := some 53, op := .fieldAddr 30 (.tmp 6) 3, type := 0, pos := "law.go:62", after := #[{ on := 0, ground := .phase }, { on := 1, ground := .phase }, { on := 2, ground := .phase }, { on := 3, ground := .phase }, { on := 4, ground := .phase }, { on := 5, ground := .phase }, { on := 6, ground := .phase }, { on := 7, ground := .phase }], guard := none }) (v := ?v_8_1) rfl (by kernel_rfl) (by kernel_rfl) (by kernel_rfl) (fun _ _ _ h => h) (Or.inl ⟨by rfl, ?y_8_1⟩) (by assumption) (by kernel_rfl) (by kernel_rfl) ?_
  case y_8_1 => (intro wq hSw; (try dsimp only at hSw); go_simp; first | done | with_reducible rfl)
  try simp only [Act.put, List.setIfInBounds_toArray, List.set_cons_zero, List.set_cons_succ]
  refine tail.next (i := 9) (o := { dst := none, op := .store 28 (.tmp 53) (.tmp 52), type := 0, pos := "law.go:62", after := #[{ on := 8, ground := .data }, { on := 7, ground := .data }, { on := 7, ground := .chain }, { on := 0, ground := .phase }, { on := 1, ground := .phase }, { on := 2, ground := .phase }, { on := 3, ground := .phase }, { on := 4, ground := .phase }, { on := 5, ground := .phase }, { on := 6, ground := .phase }, { on := 7, ground := .phase }], guard := none }) rfl (by kernel_rfl) (fun KQ hKQ => ?_)
  have df := fun i => kL.frozen i
  have cL13 : _ = some _ := kL.cell 13
  go_simp
  have kL2 := set_es kL (.slice (some ⟨yD.heap.size, 0, none⟩) n cc)
  have pO := put_set z2 w.heap.size 13 (.slice (some ⟨yD.heap.size, 0, none⟩) n cc)
  clear df cL13 kL
  generalize (z2.setCell ⟨w.heap.size, 13, none⟩ (.slice (some ⟨yD.heap.size, 0, none⟩) n cc)) = z3 at *
  have kE2 := kE.put pO (Nat.ne_of_gt LTkLkE.out)
  have kW2 := kW.put pO (Nat.ne_of_gt LTkLkW.out)
  have kR3 := kR2.put pO (Nat.ne_of_gt LTkLkR.out)
  have HB2 := pO.below _ _ HB (Nat.le_refl _)
  have hs3 := pO.size
  have RW3 : RdN z2 w.heap.size Aw n L.es := ⟨RW2.more (Nat.le_of_lt kR2.lt), hWN.out⟩
  have RW4 := (RW3.put pO).rd
  have E3 := HE.out.on HB2 HB2.size
  clear kE kW kR2 HB RW2 RW3 E2 pO sS
  refine hKQ.out _ _ ?s_9 ?_
  case s_9 => exact .inl (by decide)
  clear hKQ KQ
  try simp only [Act.put]
  refine tail.done (by kernel_rfl) ?_ _
  have kL := kL2
  have kE := kE2
  have kW := kW2
  have kR := kR3
  have HB := HB2
  have RW := RW4
  have E0 := E3
  clear kL2 kE2 kW2 kR3 HB2 RW4 E3
  have hsR := kR.lt
  generalize yD.heap.size = gR at *
  clear hs3 hsR w2
  have hncc : n ≤ cc := by have := hcc.out; omega
  obtain ⟨PU, hPU⟩ : ∃ z, pushF L x = z := ⟨_, rfl⟩
  have hPl : Hid (PU.es.length = n + 1) := by show _ = _; rw [← hPU]; show (L.es ++ [x]).length = _; rw [List.length_append, hlh.out]; rfl
  replace hPU := Lib.hid hPU
  obtain ⟨M, hM⟩ : ∃ z, (mergeF L prev tm es2).1 = z := ⟨_, rfl⟩
  obtain ⟨la, hla⟩ : ∃ z, (mergeF L prev tm es2).2.1 = z := ⟨_, rfl⟩
  obtain ⟨okb, hok⟩ : ∃ z, (mergeF L prev tm es2).2.2 = z := ⟨_, rfl⟩
  have hMl : Hid (M.es.length ≤ 120) := by show _ ≤ _; rw [← hM]; have := merge_lenF L prev tm es2; have := hlh.out; have := hn60.out; have := hm60.out; have := HE.out.1; omega
  replace hM := Lib.hid hM
  replace hla := Lib.hid hla
  replace hok := Lib.hid hok
  obtain ⟨C, hC⟩ : ∃ z, (compactF L zt).1 = z := ⟨_, rfl⟩
  obtain ⟨ec, hec⟩ : ∃ z, (compactF L zt).2 = z := ⟨_, rfl⟩
  have hCl : Hid (C.es.length ≤ 60) := by show _ ≤ _; rw [← hC]; have := compact_lenF L zt; have := hlh.out; have := hn60.out; omega
  replace hC := Lib.hid hC
  replace hec := Lib.hid hec
  obtain ⟨q, hq⟩ : ∃ q : Nat, q = n + 1 := ⟨_, rfl⟩
  have hwq : IntKind.i64.wrap ((n : Int) + 1) = (q : Int) := by have := hn60.out; rw [kit.wrap_sm (by omega) (by omega)]; omega
  have hqc : q ≤ cc := by have := hcc.out; omega
  have hnq : (n : Int) < (q : Int) := by omega
  have hn0 : (0 : Int) ≤ (n : Int) := by omega
  have hsl : Hid (Go.sliced (some ⟨gR, 0, none⟩) 0 q cc 14 = .slice (some ⟨gR, 0, none⟩) q cc) := by show _ = _; simp [Go.sliced, Addr.add]
  replace hq := Lib.hid hq
  replace hqc := Lib.hid hqc
  have hzq := fun w => neq_en zE zE w
  rw [eqE_self, Bool.not_true] at hzq
  have hzg : ∀ (x y : Operand) w, (eqGuard .neq 37 x y (enV zE) (enV zE)).run Try.prog w = .ok () w := fun x y w => by kernel_rfl
  replace hzq := Lib.hid hzq
  replace hzg := Lib.hid hzg
  replace hnq := Lib.hid hnq
  replace hn0 := Lib.hid hn0
  replace hwq := Lib.hid hwq
  have BkL := Lib.hid kL
  clear kL
  have BkE := Lib.hid kE
  clear kE
  have BkW := Lib.hid kW
  clear kW
  have BkR := Lib.hid kR
  clear kR
  have BRW := Lib.hid RW
  clear RW
  have BE0 := Lib.hid E0
  clear E0
  have BH := Lib.hid HB
  clear HB
  go_wp2_with fail
  go_loopw [14] (fun iv wr => ∃ k : Nat, k ≤ 2 ∧ iv = .int .i64 (k : Int) ∧ Hid (Below z3.heap.size z3 wr)) (fun iv _ => 2 - (intOf iv).toNat)
  case atStart => exact ⟨0, by omega, rfl, Lib.hid (Below.refl _ _)⟩
  case round =>
    obtain ⟨k, hk, rfl, HY⟩ := hrel
    by_cases hk2 : k < 2
    · skip
      have kL := BkL.out.below HY.out BkL.out.lt
      have kE := BkE.out.below HY.out BkE.out.lt
      have kW := BkW.out.below HY.out BkW.out.lt
      have kR := BkR.out.below HY.out BkR.out.lt
      have RW := BRW.out.on HY.out HY.out.size
      have E0 := BE0.out.on HY.out HY.out.size
      have HB := HY.out
      have ck : (k : Int) < 2 := by omega
      have wk : IntKind.i64.wrap ((k : Int) + 1) = ((k + 1 : Nat) : Int) := by rw [kit.wrap_sm (by omega) (by omega)]; omega
      replace hk2 := Lib.hid hk2
      replace hk := Lib.hid hk
      have RL := rd_blk kR hlh.out
      go_wp2_with (first | refine kit.lo_L _ rfl rfl rfl kL ?_ | refine kit.lo_E _ rfl rfl rfl kE ?_ | refine kit.lo_L _ rfl rfl rfl kW ?_)
      have CC := enti.push_any L (some ⟨gR, 0, none⟩) n cc x wr wr.heap.size RL (Nat.le_refl _) hncc HF.out
      rw [hPU.out] at CC
      refine CC.mono ?_
      rintro e y10 ⟨A1, c1, rfl, hO1, hY⟩
      replace HB := HB.trans (hY.mono HB.size)
      replace kL := kL.below hY kL.lt
      replace kE := kE.below hY kE.lt
      replace kW := kW.below hY kW.lt
      replace kR := kR.below hY kR.lt
      replace RW := RW.on hY hY.size
      replace E0 := E0.on hY hY.size
      replace RL := RL.on hY hY.size
      clear CC
      have h01 := Lib.hid (show z3.heap.size ≤ wr.heap.size from HY.out.size)
      have hb1 := Lib.hid hY.size
      have hA1 := Lib.hid hO1.blk_lt
      have R1 := hO1.cap.2.2.2
      clear hY
      have lkL := kL.lt
      have lkE := kE.lt
      have lkW := kW.lt
      have lkR := kR.lt
      have t11 := Below.refl y10.heap.size y10
      go_wp2_with (first | refine kit.al_L rfl rfl ?_ | (first | refine kit.lo_L _ rfl rfl rfl kL ?_ | refine kit.lo_E _ rfl rfl rfl kE ?_ | refine kit.lo_L _ rfl rfl rfl kW ?_))
      intro x12 zkA e12 s12
      replace kL := kL.below e12 kL.lt
      replace kE := kE.below e12 kE.lt
      replace kW := kW.below e12 kW.lt
      replace kR := kR.below e12 kR.lt
      have lekA := t11.size
      replace t11 := t11.trans (e12.mono t11.size)
      go_wp2_with (refine kit.st_L rfl _ _ rfl PU A1 (n + 1) c1 rfl rfl _ zkA rfl ?_)
      intro y13 kA p13
      replace kL := kL.put p13 (Nat.ne_of_lt (Nat.lt_of_lt_of_le lkL lekA))
      replace kE := kE.put p13 (Nat.ne_of_lt (Nat.lt_of_lt_of_le lkE lekA))
      replace kW := kW.put p13 (Nat.ne_of_lt (Nat.lt_of_lt_of_le lkW lekA))
      replace kR := kR.put p13 (Nat.ne_of_lt (Nat.lt_of_lt_of_le lkR lekA))
      replace t11 := p13.below _ _ t11 lekA
      replace RW := RW.on t11 t11.size
      replace E0 := E0.on t11 t11.size
      replace RL := RL.on t11 t11.size
      replace R1 := R1.on t11 t11.size
      replace hO1 := hO1.below t11
      replace HB := HB.trans (t11.mono HB.size)
      clear lkL lkE lkW lkR s12 e12 lekA t11
      generalize y10.heap.size = gkA at *
      try clear zkA
      go_wp2_with (first | refine kit.lo_L _ rfl rfl rfl kL ?_ | refine kit.lo_E _ rfl rfl rfl kE ?_ | refine kit.lo_L _ rfl rfl rfl kW ?_ | refine kit.lo_L _ rfl rfl rfl kA ?_)
      have CC := enti.merge_any L (some ⟨gR, 0, none⟩) n cc prev tm A2 n2 c2 es2 y13 y13.heap.size RL (Nat.le_refl _) hncc HF.out y13.heap.size E0 (Nat.le_refl _) hc2 (by have := hm60.out; omega)
      rw [hM.out, hla.out, hok.out] at CC
      have gAm := Lib.hid kA.lt
      refine CC.mono ?_
      rintro e y14 ⟨Am, nm, cm, rfl, hnm, hOm, hY⟩
      replace HB := HB.trans (hY.mono HB.size)
      replace kL := kL.below hY kL.lt
      replace kE := kE.below hY kE.lt
      replace kW := kW.below hY kW.lt
      replace kR := kR.below hY kR.lt
      replace kA := kA.below hY kA.lt
      replace RW := RW.on hY hY.size
      replace E0 := E0.on hY hY.size
      replace RL := RL.on hY hY.size
      replace R1 := R1.on hY hY.size
      replace hO1 := hO1.below hY
      clear CC
      have hbm := Lib.hid hY.size
      have hAm := Lib.hid hOm.blk_lt
      have Rm := hOm.cap.2.2.2
      replace hnm := Lib.hid hnm
      clear hY
      have lkL := kL.lt
      have lkE := kE.lt
      have lkW := kW.lt
      have lkR := kR.lt
      have lkA := kA.lt
      have t15 := Below.refl y14.heap.size y14
      go_wp2_with (first | refine kit.al_L rfl rfl ?_ | (first | refine kit.lo_L _ rfl rfl rfl kL ?_ | refine kit.lo_E _ rfl rfl rfl kE ?_ | refine kit.lo_L _ rfl rfl rfl kW ?_ | refine kit.lo_L _ rfl rfl rfl kA ?_))
      intro x16 zkM e16 s16
      replace kL := kL.below e16 kL.lt
      replace kE := kE.below e16 kE.lt
      replace kW := kW.below e16 kW.lt
      replace kR := kR.below e16 kR.lt
      replace kA := kA.below e16 kA.lt
      have lekM := t15.size
      replace t15 := t15.trans (e16.mono t15.size)
      go_wp2_with (refine kit.st_L rfl _ _ rfl M Am nm cm rfl rfl _ zkM rfl ?_)
      intro y17 kM p17
      replace kL := kL.put p17 (Nat.ne_of_lt (Nat.lt_of_lt_of_le lkL lekM))
      replace kE := kE.put p17 (Nat.ne_of_lt (Nat.lt_of_lt_of_le lkE lekM))
      replace kW := kW.put p17 (Nat.ne_of_lt (Nat.lt_of_lt_of_le lkW lekM))
      replace kR := kR.put p17 (Nat.ne_of_lt (Nat.lt_of_lt_of_le lkR lekM))
      replace kA := kA.put p17 (Nat.ne_of_lt (Nat.lt_of_lt_of_le lkA lekM))
      replace t15 := p17.below _ _ t15 lekM
      have NEkAkM := Lib.hid (Nat.ne_of_gt (Nat.lt_of_lt_of_le lkA lekM))
      have LTkAkM := Lib.hid (Nat.lt_of_lt_of_le lkA lekM)
      replace RW := RW.on t15 t15.size
      replace E0 := E0.on t15 t15.size
      replace RL := RL.on t15 t15.size
      replace R1 := R1.on t15 t15.size
      replace Rm := Rm.on t15 t15.size
      replace hO1 := hO1.below t15
      replace hOm := hOm.below t15
      replace HB := HB.trans (t15.mono HB.size)
      clear lkL lkE lkW lkR lkA s16 e16 lekM t15
      generalize y14.heap.size = gkM at *
      try clear zkM
      go_wp2_with (first | refine kit.lo_L _ rfl rfl rfl kL ?_ | refine kit.lo_E _ rfl rfl rfl kE ?_ | refine kit.lo_L _ rfl rfl rfl kW ?_ | refine kit.lo_L _ rfl rfl rfl kA ?_ | refine kit.lo_L _ rfl rfl rfl kM ?_)
      have CC := ref12.rmerge_any L Aw n cw prev tm A2 n2 c2 es2 y17 y17.heap.size RW (Nat.le_refl _) cwh.out HF.out y17.heap.size E0 (Nat.le_refl _) hc2 (by have := hm60.out; omega)
      rw [hM.out, hla.out, hok.out] at CC
      refine CC.mono ?_
      rintro e y18 ⟨An, nn, cn, rfl, hnn, Rn, hcn, hY⟩
      replace HB := HB.trans (hY.mono HB.size)
      replace kL := kL.below hY kL.lt
      replace kE := kE.below hY kE.lt
      replace kW := kW.below hY kW.lt
      replace kR := kR.below hY kR.lt
      replace kA := kA.below hY kA.lt
      replace kM := kM.below hY kM.lt
      replace RW := RW.on hY hY.size
      replace E0 := E0.on hY hY.size
      replace RL := RL.on hY hY.size
      replace R1 := R1.on hY hY.size
      replace Rm := Rm.on hY hY.size
      replace hO1 := hO1.below hY
      replace hOm := hOm.below hY
      clear CC
      clear hnn hcn
      clear hY
      have lkL := kL.lt
      have lkE := kE.lt
      have lkW := kW.lt
      have lkR := kR.lt
      have lkA := kA.lt
      have lkM := kM.lt
      have t19 := Below.refl y18.heap.size y18
      go_wp2_with (first | refine kit.al_L rfl rfl ?_ | (first | refine kit.lo_L _ rfl rfl rfl kL ?_ | refine kit.lo_E _ rfl rfl rfl kE ?_ | refine kit.lo_L _ rfl rfl rfl kW ?_ | refine kit.lo_L _ rfl rfl rfl kA ?_ | refine kit.lo_L _ rfl rfl rfl kM ?_))
      intro x20 zkN e20 s20
      replace kL := kL.below e20 kL.lt
      replace kE := kE.below e20 kE.lt
      replace kW := kW.below e20 kW.lt
      replace kR := kR.below e20 kR.lt
      replace kA := kA.below e20 kA.lt
      replace kM := kM.below e20 kM.lt
      have lekN := t19.size
      replace t19 := t19.trans (e20.mono t19.size)
      go_wp2_with (refine kit.st_L rfl _ _ rfl M An nn cn rfl rfl _ zkN rfl ?_)
      intro y21 kN p21
      replace kL := kL.put p21 (Nat.ne_of_lt (Nat.lt_of_lt_of_le lkL lekN))
      replace kE := kE.put p21 (Nat.ne_of_lt (Nat.lt_of_lt_of_le lkE lekN))
      replace kW := kW.put p21 (Nat.ne_of_lt (Nat.lt_of_lt_of_le lkW lekN))
      replace kR := kR.put p21 (Nat.ne_of_lt (Nat.lt_of_lt_of_le lkR lekN))
      replace kA := kA.put p21 (Nat.ne_of_lt (Nat.lt_of_lt_of_le lkA lekN))
      replace kM := kM.put p21 (Nat.ne_of_lt (Nat.lt_of_lt_of_le lkM lekN))
      replace t19 := p21.below _ _ t19 lekN
      replace RW := RW.on t19 t19.size
      replace E0 := E0.on t19 t19.size
      replace RL := RL.on t19 t19.size
      replace R1 := R1.on t19 t19.size
      replace Rm := Rm.on t19 t19.size
      replace Rn := Rn.on t19 t19.size
      replace hO1 := hO1.below t19
      replace hOm := hOm.below t19
      replace HB := HB.trans (t19.mono HB.size)
      clear lkL lkE lkW lkR lkA lkM s20 e20 lekN t19
      generalize y18.heap.size = gkN at *
      try clear zkN
      clear E0
      go_wp2_with (first | refine kit.lo_L _ rfl rfl rfl kL ?_ | refine kit.lo_E _ rfl rfl rfl kE ?_ | refine kit.lo_L _ rfl rfl rfl kW ?_ | refine kit.lo_L _ rfl rfl rfl kA ?_ | refine kit.lo_L _ rfl rfl rfl kM ?_ | refine kit.lo_L _ rfl rfl rfl kN ?_)
      have CC := enti.compact_any L (some ⟨gR, 0, none⟩) n cc zt y21 y21.heap.size RL (Nat.le_refl _) hncc HF.out
      rw [hC.out, hec.out] at CC
      have gMc := Lib.hid kM.lt
      have gAc := Lib.hid kA.lt
      refine CC.mono ?_
      rintro e y22 ⟨Ac, nc, c3, rfl, hnc, hOc, hY⟩
      replace HB := HB.trans (hY.mono HB.size)
      replace kL := kL.below hY kL.lt
      replace kE := kE.below hY kE.lt
      replace kW := kW.below hY kW.lt
      replace kR := kR.below hY kR.lt
      replace kA := kA.below hY kA.lt
      replace kM := kM.below hY kM.lt
      replace kN := kN.below hY kN.lt
      replace RW := RW.on hY hY.size
      replace RL := RL.on hY hY.size
      replace R1 := R1.on hY hY.size
      replace Rm := Rm.on hY hY.size
      replace Rn := Rn.on hY hY.size
      replace hO1 := hO1.below hY
      replace hOm := hOm.below hY
      clear CC
      have hbc := Lib.hid hY.size
      have Rc := hOc.cap.2.2.2
      replace hnc := Lib.hid hnc
      clear hY
      have lkL := kL.lt
      have lkE := kE.lt
      have lkW := kW.lt
      have lkR := kR.lt
      have lkA := kA.lt
      have lkM := kM.lt
      have lkN := kN.lt
      have t23 := Below.refl y22.heap.size y22
      go_wp2_with (first | refine kit.al_L rfl rfl ?_ | (first | refine kit.lo_L _ rfl rfl rfl kL ?_ | refine kit.lo_E _ rfl rfl rfl kE ?_ | refine kit.lo_L _ rfl rfl rfl kW ?_ | refine kit.lo_L _ rfl rfl rfl kA ?_ | refine kit.lo_L _ rfl rfl rfl kM ?_ | refine kit.lo_L _ rfl rfl rfl kN ?_))
      intro x24 zkC e24 s24
      replace kL := kL.below e24 kL.lt
      replace kE := kE.below e24 kE.lt
      replace kW := kW.below e24 kW.lt
      replace kR := kR.below e24 kR.lt
      replace kA := kA.below e24 kA.lt
      replace kM := kM.below e24 kM.lt
      replace kN := kN.below e24 kN.lt
      have lekC := t23.size
      replace t23 := t23.trans (e24.mono t23.size)
      go_wp2_with (refine kit.st_L rfl _ _ rfl C Ac nc c3 rfl rfl _ zkC rfl ?_)
      intro y25 kC p25
      replace kL := kL.put p25 (Nat.ne_of_lt (Nat.lt_of_lt_of_le lkL lekC))
      replace kE := kE.put p25 (Nat.ne_of_lt (Nat.lt_of_lt_of_le lkE lekC))
      replace kW := kW.put p25 (Nat.ne_of_lt (Nat.lt_of_lt_of_le lkW lekC))
      replace kR := kR.put p25 (Nat.ne_of_lt (Nat.lt_of_lt_of_le lkR lekC))
      replace kA := kA.put p25 (Nat.ne_of_lt (Nat.lt_of_lt_of_le lkA lekC))
      replace kM := kM.put p25 (Nat.ne_of_lt (Nat.lt_of_lt_of_le lkM lekC))
      replace kN := kN.put p25 (Nat.ne_of_lt (Nat.lt_of_lt_of_le lkN lekC))
      replace t23 := p25.below _ _ t23 lekC
      have NEkAkC := Lib.hid (Nat.ne_of_gt (Nat.lt_of_lt_of_le lkA lekC))
      have LTkAkC := Lib.hid (Nat.lt_of_lt_of_le lkA lekC)
      have NEkMkC := Lib.hid (Nat.ne_of_gt (Nat.lt_of_lt_of_le lkM lekC))
      have LTkMkC := Lib.hid (Nat.lt_of_lt_of_le lkM lekC)
      replace RW := RW.on t23 t23.size
      replace RL := RL.on t23 t23.size
      replace R1 := R1.on t23 t23.size
      replace Rm := Rm.on t23 t23.size
      replace Rn := Rn.on t23 t23.size
      replace Rc := Rc.on t23 t23.size
      replace hO1 := hO1.below t23
      replace hOm := hOm.below t23
      replace hOc := hOc.below t23
      replace HB := HB.trans (t23.mono HB.size)
      clear lkL lkE lkW lkR lkA lkM lkN s24 e24 lekC t23
      generalize y22.heap.size = gkC at *
      try clear zkC
      go_wp2_with (first | refine kit.lo_L _ rfl rfl rfl kL ?_ | refine kit.lo_E _ rfl rfl rfl kE ?_ | refine kit.lo_L _ rfl rfl rfl kW ?_ | refine kit.lo_L _ rfl rfl rfl kA ?_ | refine kit.lo_L _ rfl rfl rfl kM ?_ | refine kit.lo_L _ rfl rfl rfl kN ?_ | refine kit.lo_L _ rfl rfl rfl kC ?_)
      have CC := ref12.rcompact_any L Aw n cw zt y25 y25.heap.size RW (Nat.le_refl _) cwh.out HF.out
      rw [hC.out, hec.out] at CC
      refine CC.mono ?_
      rintro e y26 ⟨Ad, nd, cd, rfl, hnd, Rd, hcd, hY⟩
      replace HB := HB.trans (hY.mono HB.size)
      replace kL := kL.below hY kL.lt
      replace kE := kE.below hY kE.lt
      replace kW := kW.below hY kW.lt
      replace kR := kR.below hY kR.lt
      replace kA := kA.below hY kA.lt
      replace kM := kM.below hY kM.lt
      replace kN := kN.below hY kN.lt
      replace kC := kC.below hY kC.lt
      replace RW := RW.on hY hY.size
      replace RL := RL.on hY hY.size
      replace R1 := R1.on hY hY.size
      replace Rm := Rm.on hY hY.size
      replace Rn := Rn.on hY hY.size
      replace Rc := Rc.on hY hY.size
      replace hO1 := hO1.below hY
      replace hOm := hOm.below hY
      replace hOc := hOc.below hY
      clear CC
      clear hnd hcd
      clear hY
      have lkL := kL.lt
      have lkE := kE.lt
      have lkW := kW.lt
      have lkR := kR.lt
      have lkA := kA.lt
      have lkM := kM.lt
      have lkN := kN.lt
      have lkC := kC.lt
      have t27 := Below.refl y26.heap.size y26
      go_wp2_with (first | refine kit.al_L rfl rfl ?_ | (first | refine kit.lo_L _ rfl rfl rfl kL ?_ | refine kit.lo_E _ rfl rfl rfl kE ?_ | refine kit.lo_L _ rfl rfl rfl kW ?_ | refine kit.lo_L _ rfl rfl rfl kA ?_ | refine kit.lo_L _ rfl rfl rfl kM ?_ | refine kit.lo_L _ rfl rfl rfl kN ?_ | refine kit.lo_L _ rfl rfl rfl kC ?_))
      intro x28 zkD e28 s28
      replace kL := kL.below e28 kL.lt
      replace kE := kE.below e28 kE.lt
      replace kW := kW.below e28 kW.lt
      replace kR := kR.below e28 kR.lt
      replace kA := kA.below e28 kA.lt
      replace kM := kM.below e28 kM.lt
      replace kN := kN.below e28 kN.lt
      replace kC := kC.below e28 kC.lt
      have lekD := t27.size
      replace t27 := t27.trans (e28.mono t27.size)
      go_wp2_with (refine kit.st_L rfl _ _ rfl C Ad nd cd rfl rfl _ zkD rfl ?_)
      intro y29 kD p29
      replace kL := kL.put p29 (Nat.ne_of_lt (Nat.lt_of_lt_of_le lkL lekD))
      replace kE := kE.put p29 (Nat.ne_of_lt (Nat.lt_of_lt_of_le lkE lekD))
      replace kW := kW.put p29 (Nat.ne_of_lt (Nat.lt_of_lt_of_le lkW lekD))
      replace kR := kR.put p29 (Nat.ne_of_lt (Nat.lt_of_lt_of_le lkR lekD))
      replace kA := kA.put p29 (Nat.ne_of_lt (Nat.lt_of_lt_of_le lkA lekD))
      replace kM := kM.put p29 (Nat.ne_of_lt (Nat.lt_of_lt_of_le lkM lekD))
      replace kN := kN.put p29 (Nat.ne_of_lt (Nat.lt_of_lt_of_le lkN lekD))
      replace kC := kC.put p29 (Nat.ne_of_lt (Nat.lt_of_lt_of_le lkC lekD))
      replace t27 := p29.below _ _ t27 lekD
      replace RW := RW.on t27 t27.size
      replace RL := RL.on t27 t27.size
      replace R1 := R1.on t27 t27.size
      replace Rm := Rm.on t27 t27.size
      replace Rn := Rn.on t27 t27.size
      replace Rc := Rc.on t27 t27.size
      replace Rd := Rd.on t27 t27.size
      replace hO1 := hO1.below t27
      replace hOm := hOm.below t27
      replace hOc := hOc.below t27
      replace HB := HB.trans (t27.mono HB.size)
      clear lkL lkE lkW lkR lkA lkM lkN lkC s28 e28 lekD t27
      generalize y26.heap.size = gkD at *
      try clear zkD
      go_upto_region 15 with (first | refine kit.lo_L _ rfl rfl rfl kL ?_ | refine kit.lo_E _ rfl rfl rfl kE ?_ | refine kit.lo_L _ rfl rfl rfl kW ?_ | refine kit.lo_L _ rfl rfl rfl kA ?_ | refine kit.lo_L _ rfl rfl rfl kM ?_ | refine kit.lo_L _ rfl rfl rfl kN ?_ | refine kit.lo_L _ rfl rfl rfl kC ?_ | refine kit.lo_L _ rfl rfl rfl kD ?_)
      have wq2 := hwq.out
      have nq2 := hnq.out
      have n02 := hn0.out
      refine wp_region_held_drew (S := fun wq => TrnS w.heap.size gkW gkE gkA gkM gkN gkC gkD gR L PU M C x n cc Aw cw A1 c1 Am nm cm An nn cn Ac nc c3 Ad nd cd wq) (by kernel_rfl) ?s_trn15 (fun hHeld => ?_)
      case s_trn15 => exact ⟨kL, kW, kE, kA, kM, kN, kC, kD, kL.cell 13, kW.cell 13, at_blk kR (zE_at hlh.out hcc.out)⟩
      have hD := (Below.refl y29.heap.size y29).drew
      replace HB := HB.trans (hD.mono HB.size)
      replace kL := kL.below hD kL.lt
      replace kE := kE.below hD kE.lt
      replace kW := kW.below hD kW.lt
      replace kR := kR.below hD kR.lt
      replace kA := kA.below hD kA.lt
      replace kM := kM.below hD kM.lt
      replace kN := kN.below hD kN.lt
      replace kC := kC.below hD kC.lt
      replace kD := kD.below hD kD.lt
      replace RW := RW.on hD hD.size
      replace RL := RL.on hD hD.size
      replace R1 := R1.on hD hD.size
      replace Rm := Rm.on hD hD.size
      replace Rn := Rn.on hD hD.size
      replace Rc := Rc.on hD hD.size
      replace Rd := Rd.on hD hD.size
      replace hO1 := hO1.below hD
      replace hOm := hOm.below hD
      replace hOc := hOc.below hD
      clear hD
      generalize y29.drew = yE at *
      refine tk 0 { dst := some 91, op := .load 30 (.tmp 15), type := 30, pos := "law.go:69", after := #[], guard := none } _ ?_ (hy := fun wq hSw => kit.rld_L rfl rfl (TrnS.sa hSw))
      try simp only [Act.put, List.setIfInBounds_toArray, List.set_cons_zero, List.set_cons_succ]
      refine tk 1 { dst := some 92, op := .load 30 (.tmp 13), type := 30, pos := "law.go:69", after := #[], guard := none } _ ?_ (hy := fun wq hSw => kit.rld_L rfl rfl (TrnS.sw hSw))
      try simp only [Act.put, List.setIfInBounds_toArray, List.set_cons_zero, List.set_cons_succ]
      refine tk 2 { dst := some 93, op := .load 37 (.tmp 7), type := 37, pos := "law.go:69", after := #[], guard := none } _ ?_ (hy := fun wq hSw => kit.rld_E rfl rfl (TrnS.se hSw))
      try simp only [Act.put, List.setIfInBounds_toArray, List.set_cons_zero, List.set_cons_succ]
      refine wpAnyH_ready (rs := [3]) (by kernel_rfl) (by simp) ?_
      refine AllReadyH.cons (o := { dst := some 94, op := .call { callee := .value (.func 33), args := #[.tmp 92, .tmp 93], argTypes := #[30, 37] }, type := 30, pos := "law.go:69", after := #[{ on := 1, ground := .data }, { on := 2, ground := .data }], guard := none }) rfl (fun KQ hKQ => ?_) AllReadyH.nil
      go_simp
      have CC := ref12.rpush_any L Aw n cw x yE yE.heap.size RW (Nat.le_refl _) cwh.out HF.out
      rw [hPU.out] at CC
      refine CC.mono ?_
      rintro e y30 ⟨A9, n9, c9, rfl, hn9, hO9, hY⟩
      replace HB := HB.trans (hY.mono HB.size)
      replace kL := kL.below hY kL.lt
      replace kE := kE.below hY kE.lt
      replace kW := kW.below hY kW.lt
      replace kR := kR.below hY kR.lt
      replace kA := kA.below hY kA.lt
      replace kM := kM.below hY kM.lt
      replace kN := kN.below hY kN.lt
      replace kC := kC.below hY kC.lt
      replace kD := kD.below hY kD.lt
      replace RW := RW.on hY hY.size
      replace RL := RL.on hY hY.size
      replace R1 := R1.on hY hY.size
      replace Rm := Rm.on hY hY.size
      replace Rn := Rn.on hY hY.size
      replace Rc := Rc.on hY hY.size
      replace Rd := Rd.on hY hY.size
      replace hO1 := hO1.below hY
      replace hOm := hOm.below hY
      replace hOc := hOc.below hY
      clear CC
      have R9 := hO9.cap.2.2.2
      clear hO9 hn9
      clear hY
      go_wp2_with fail
      refine hKQ.out _ _ ?s_3 (fun hHeld3 => ?_)
      case s_3 => exact ⟨kL, kW, kE, kA, kM, kN, kC, kD, kL.cell 13, kW.cell 13, at_blk kR (zE_at hlh.out hcc.out)⟩
      clear hKQ KQ
      try simp only [Act.put, List.setIfInBounds_toArray, List.set_cons_zero, List.set_cons_succ]
      refine wpAnyH_ready (rs := [4]) (by kernel_rfl) (by simp) ?_
      refine AllReadyH.cons (o := { dst := some 95, op := .call { callee := .value (.func 32), args := #[.tmp 91, .tmp 94], argTypes := #[30, 30] }, type := 4, pos := "law.go:69", after := #[{ on := 0, ground := .data }, { on := 3, ground := .data }, { on := 3, ground := .chain }], guard := none }) rfl (fun KQ hKQ => ?_) AllReadyH.nil
      go_simp
      have CC := same_self PU A1 (n + 1) c1 A9 n9 c9 y30 R1 R9 (by have := hn60.out; omega)
      refine CC.mono ?_
      rintro e y31 ⟨rfl, hY⟩
      replace HB := HB.trans (hY.mono HB.size)
      replace kL := kL.below hY kL.lt
      replace kE := kE.below hY kE.lt
      replace kW := kW.below hY kW.lt
      replace kR := kR.below hY kR.lt
      replace kA := kA.below hY kA.lt
      replace kM := kM.below hY kM.lt
      replace kN := kN.below hY kN.lt
      replace kC := kC.below hY kC.lt
      replace kD := kD.below hY kD.lt
      replace RW := RW.on hY hY.size
      replace RL := RL.on hY hY.size
      replace R1 := R1.on hY hY.size
      replace Rm := Rm.on hY hY.size
      replace Rn := Rn.on hY hY.size
      replace Rc := Rc.on hY hY.size
      replace Rd := Rd.on hY hY.size
      replace R9 := R9.on hY hY.size
      replace hO1 := hO1.below hY
      replace hOm := hOm.below hY
      replace hOc := hOc.below hY
      clear CC
      clear hY
      go_wp2_with fail
      refine hKQ.out _ _ ?s_4 (fun hHeld4 => ?_)
      case s_4 => exact ⟨kL, kW, kE, kA, kM, kN, kC, kD, kL.cell 13, kW.cell 13, at_blk kR (zE_at hlh.out hcc.out)⟩
      clear hKQ KQ
      try simp only [Act.put, List.setIfInBounds_toArray, List.set_cons_zero, List.set_cons_succ]
      refine tk 5 { dst := some 96, op := .unOp .not 4 (.tmp 95), type := 4, pos := "law.go:69", after := #[{ on := 4, ground := .data }], guard := none } _ ?_
      try simp only [Act.put, List.setIfInBounds_toArray, List.set_cons_zero, List.set_cons_succ]
      refine tk 6 { dst := some 97, op := .move (.tmp 96), type := 4, pos := "law.go:69", after := #[{ on := 5, ground := .data }, { on := 4, ground := .chain }], guard := none } _ ?_
      try simp only [Act.put, List.setIfInBounds_toArray, List.set_cons_zero, List.set_cons_succ]
      refine tk 7 { dst := some 98, op := .load 30 (.tmp 16), type := 30, pos := "law.go:69", after := #[{ on := 6, ground := .guard }], guard := some (6, false) } _ ?_ (hy := fun wq hSw => kit.rld_L rfl rfl (TrnS.sm hSw))
      try simp only [Act.put, List.setIfInBounds_toArray, List.set_cons_zero, List.set_cons_succ]
      refine tk 8 { dst := some 99, op := .load 30 (.tmp 19), type := 30, pos := "law.go:69", after := #[{ on := 6, ground := .guard }], guard := some (6, false) } _ ?_ (hy := fun wq hSw => kit.rld_L rfl rfl (TrnS.sn hSw))
      try simp only [Act.put, List.setIfInBounds_toArray, List.set_cons_zero, List.set_cons_succ]
      refine wpAnyH_ready (rs := [9]) (by kernel_rfl) (by simp) ?_
      refine AllReadyH.cons (o := { dst := some 100, op := .call { callee := .value (.func 32), args := #[.tmp 98, .tmp 99], argTypes := #[30, 30] }, type := 4, pos := "law.go:69", after := #[{ on := 7, ground := .data }, { on := 8, ground := .data }, { on := 6, ground := .chain }, { on := 6, ground := .guard }], guard := some (6, false) }) rfl (fun KQ hKQ => ?_) AllReadyH.nil
      go_simp
      have CC := same_self M Am nm cm An nn cn y31 Rm Rn (by have := hMl.out; have := hnm.out; omega)
      refine CC.mono ?_
      rintro e y32 ⟨rfl, hY⟩
      replace HB := HB.trans (hY.mono HB.size)
      replace kL := kL.below hY kL.lt
      replace kE := kE.below hY kE.lt
      replace kW := kW.below hY kW.lt
      replace kR := kR.below hY kR.lt
      replace kA := kA.below hY kA.lt
      replace kM := kM.below hY kM.lt
      replace kN := kN.below hY kN.lt
      replace kC := kC.below hY kC.lt
      replace kD := kD.below hY kD.lt
      replace RW := RW.on hY hY.size
      replace RL := RL.on hY hY.size
      replace R1 := R1.on hY hY.size
      replace Rm := Rm.on hY hY.size
      replace Rn := Rn.on hY hY.size
      replace Rc := Rc.on hY hY.size
      replace Rd := Rd.on hY hY.size
      replace R9 := R9.on hY hY.size
      replace hO1 := hO1.below hY
      replace hOm := hOm.below hY
      replace hOc := hOc.below hY
      clear CC
      clear hY
      go_wp2_with fail
      refine hKQ.out _ _ ?s_9 (fun hHeld9 => ?_)
      case s_9 => exact ⟨kL, kW, kE, kA, kM, kN, kC, kD, kL.cell 13, kW.cell 13, at_blk kR (zE_at hlh.out hcc.out)⟩
      clear hKQ KQ
      try simp only [Act.put, List.setIfInBounds_toArray, List.set_cons_zero, List.set_cons_succ]
      refine tk 10 { dst := some 101, op := .unOp .not 4 (.tmp 100), type := 4, pos := "law.go:69", after := #[{ on := 9, ground := .data }, { on := 6, ground := .guard }], guard := some (6, false) } _ ?_
      try simp only [Act.put, List.setIfInBounds_toArray, List.set_cons_zero, List.set_cons_succ]
      refine tk 11 { dst := some 102, op := .pick (.tmp 97) (.const (.bool true)) (.tmp 101), type := 4, pos := "law.go:69", after := #[{ on := 6, ground := .data }, { on := 10, ground := .data }], guard := none } _ ?_
      try simp only [Act.put, List.setIfInBounds_toArray, List.set_cons_zero, List.set_cons_succ]
      refine tk 12 { dst := some 103, op := .move (.tmp 102), type := 4, pos := "law.go:69", after := #[{ on := 11, ground := .data }, { on := 9, ground := .chain }], guard := none } _ ?_
      try simp only [Act.put, List.setIfInBounds_toArray, List.set_cons_zero, List.set_cons_succ]
      refine tk 13 { dst := some 104, op := .move (.tmp 17), type := 3, pos := "law.go:69", after := #[{ on := 12, ground := .guard }], guard := some (12, false) } _ ?_
      try simp only [Act.put, List.setIfInBounds_toArray, List.set_cons_zero, List.set_cons_succ]
      refine tk 14 { dst := some 105, op := .move (.tmp 20), type := 3, pos := "law.go:69", after := #[{ on := 12, ground := .guard }], guard := some (12, false) } _ ?_
      try simp only [Act.put, List.setIfInBounds_toArray, List.set_cons_zero, List.set_cons_succ]
      refine tk 15 { dst := some 106, op := .binOp .neq 3 (.tmp 104) (.tmp 105) 3, type := 4, pos := "law.go:69", after := #[{ on := 13, ground := .data }, { on := 14, ground := .data }, { on := 12, ground := .guard }], guard := some (12, false) } _ ?_
      try simp only [Act.put, List.setIfInBounds_toArray, List.set_cons_zero, List.set_cons_succ]
      refine tk 16 { dst := some 107, op := .pick (.tmp 103) (.const (.bool true)) (.tmp 106), type := 4, pos := "law.go:69", after := #[{ on := 12, ground := .data }, { on := 15, ground := .data }], guard := none } _ ?_
      try simp only [Act.put, List.setIfInBounds_toArray, List.set_cons_zero, List.set_cons_succ]
      refine tk 17 { dst := some 108, op := .move (.tmp 107), type := 4, pos := "law.go:69", after := #[{ on := 16, ground := .data }, { on := 12, ground := .chain }], guard := none } _ ?_
      try simp only [Act.put, List.setIfInBounds_toArray, List.set_cons_zero, List.set_cons_succ]
      refine tk 18 { dst := some 109, op := .move (.tmp 18), type := 4, pos := "law.go:69", after := #[{ on := 17, ground := .guard }], guard := some (17, false) } _ ?_
      try simp only [Act.put, List.setIfInBounds_toArray, List.set_cons_zero, List.set_cons_succ]
      refine tk 19 { dst := some 110, op := .move (.tmp 21), type := 4, pos := "law.go:69", after := #[{ on := 17, ground := .guard }], guard := some (17, false) } _ ?_
      try simp only [Act.put, List.setIfInBounds_toArray, List.set_cons_zero, List.set_cons_succ]
      refine tk 20 { dst := some 111, op := .binOp .neq 4 (.tmp 109) (.tmp 110) 4, type := 4, pos := "law.go:69", after := #[{ on := 18, ground := .data }, { on := 19, ground := .data }, { on := 17, ground := .guard }], guard := some (17, false) } _ ?_
      try simp only [Act.put, List.setIfInBounds_toArray, List.set_cons_zero, List.set_cons_succ]
      refine tk 21 { dst := some 112, op := .pick (.tmp 108) (.const (.bool true)) (.tmp 111), type := 4, pos := "law.go:69", after := #[{ on := 17, ground := .data }, { on := 20, ground := .data }], guard := none } _ ?_
      try simp only [Act.put, List.setIfInBounds_toArray, List.set_cons_zero, List.set_cons_succ]
      refine tk 22 { dst := some 113, op := .move (.tmp 112), type := 4, pos := "law.go:69", after := #[{ on := 21, ground := .data }, { on := 17, ground := .chain }], guard := none } _ ?_
      try simp only [Act.put, List.setIfInBounds_toArray, List.set_cons_zero, List.set_cons_succ]
      refine tk 23 { dst := some 114, op := .load 30 (.tmp 22), type := 30, pos := "law.go:69", after := #[{ on := 22, ground := .guard }], guard := some (22, false) } _ ?_ (hy := fun wq hSw => kit.rld_L rfl rfl (TrnS.sc hSw))
      try simp only [Act.put, List.setIfInBounds_toArray, List.set_cons_zero, List.set_cons_succ]
      refine tk 24 { dst := some 115, op := .load 30 (.tmp 24), type := 30, pos := "law.go:69", after := #[{ on := 22, ground := .guard }], guard := some (22, false) } _ ?_ (hy := fun wq hSw => kit.rld_L rfl rfl (TrnS.sd hSw))
      try simp only [Act.put, List.setIfInBounds_toArray, List.set_cons_zero, List.set_cons_succ]
      refine wpAnyH_ready (rs := [25]) (by kernel_rfl) (by simp) ?_
      refine AllReadyH.cons (o := { dst := some 116, op := .call { callee := .value (.func 32), args := #[.tmp 114, .tmp 115], argTypes := #[30, 30] }, type := 4, pos := "law.go:69", after := #[{ on := 23, ground := .data }, { on := 24, ground := .data }, { on := 22, ground := .chain }, { on := 22, ground := .guard }], guard := some (22, false) }) rfl (fun KQ hKQ => ?_) AllReadyH.nil
      go_simp
      have CC := same_self C Ac nc c3 Ad nd cd y32 Rc Rd (by have := hCl.out; have := hnc.out; omega)
      refine CC.mono ?_
      rintro e y33 ⟨rfl, hY⟩
      replace HB := HB.trans (hY.mono HB.size)
      replace kL := kL.below hY kL.lt
      replace kE := kE.below hY kE.lt
      replace kW := kW.below hY kW.lt
      replace kR := kR.below hY kR.lt
      replace kA := kA.below hY kA.lt
      replace kM := kM.below hY kM.lt
      replace kN := kN.below hY kN.lt
      replace kC := kC.below hY kC.lt
      replace kD := kD.below hY kD.lt
      replace RW := RW.on hY hY.size
      replace RL := RL.on hY hY.size
      replace R1 := R1.on hY hY.size
      replace Rm := Rm.on hY hY.size
      replace Rn := Rn.on hY hY.size
      replace Rc := Rc.on hY hY.size
      replace Rd := Rd.on hY hY.size
      replace R9 := R9.on hY hY.size
      replace hO1 := hO1.below hY
      replace hOm := hOm.below hY
      replace hOc := hOc.below hY
      clear CC
      clear hY
      go_wp2_with fail
      refine hKQ.out _ _ ?s_25 (fun hHeld25 => ?_)
      case s_25 => exact ⟨kL, kW, kE, kA, kM, kN, kC, kD, kL.cell 13, kW.cell 13, at_blk kR (zE_at hlh.out hcc.out)⟩
      clear hKQ KQ
      try simp only [Act.put, List.setIfInBounds_toArray, List.set_cons_zero, List.set_cons_succ]
      refine tk 26 { dst := some 117, op := .unOp .not 4 (.tmp 116), type := 4, pos := "law.go:69", after := #[{ on := 25, ground := .data }, { on := 22, ground := .guard }], guard := some (22, false) } _ ?_
      try simp only [Act.put, List.setIfInBounds_toArray, List.set_cons_zero, List.set_cons_succ]
      refine tk 27 { dst := some 118, op := .pick (.tmp 113) (.const (.bool true)) (.tmp 117), type := 4, pos := "law.go:69", after := #[{ on := 22, ground := .data }, { on := 26, ground := .data }], guard := none } _ ?_
      try simp only [Act.put, List.setIfInBounds_toArray, List.set_cons_zero, List.set_cons_succ]
      refine tk 28 { dst := some 119, op := .move (.tmp 118), type := 4, pos := "law.go:69", after := #[{ on := 27, ground := .data }, { on := 25, ground := .chain }], guard := none } _ ?_
      try simp only [Act.put, List.setIfInBounds_toArray, List.set_cons_zero, List.set_cons_succ]
      refine tk 29 { dst := some 120, op := .move (.tmp 23), type := 50, pos := "law.go:69", after := #[{ on := 28, ground := .guard }], guard := some (28, false) } _ ?_
      try simp only [Act.put, List.setIfInBounds_toArray, List.set_cons_zero, List.set_cons_succ]
      refine tk 30 { dst := some 121, op := .move (.tmp 25), type := 50, pos := "law.go:69", after := #[{ on := 28, ground := .guard }], guard := some (28, false) } _ ?_
      try simp only [Act.put, List.setIfInBounds_toArray, List.set_cons_zero, List.set_cons_succ]
      refine tk 31 { dst := some 122, op := .binOp .neq 50 (.tmp 120) (.tmp 121) 50, type := 4, pos := "law.go:69", after := #[{ on := 29, ground := .data }, { on := 30, ground := .data }, { on := 28, ground := .guard }], guard := some (28, false) } _ ?_
      try simp only [Act.put, List.setIfInBounds_toArray, List.set_cons_zero, List.set_cons_succ]
      refine tk 32 { dst := some 123, op := .pick (.tmp 119) (.const (.bool true)) (.tmp 122), type := 4, pos := "law.go:69", after := #[{ on := 28, ground := .data }, { on := 31, ground := .data }], guard := none } _ ?_
      try simp only [Act.put, List.setIfInBounds_toArray, List.set_cons_zero, List.set_cons_succ]
      refine tk 33 { dst := some 124, op := .move (.tmp 123), type := 4, pos := "law.go:69", after := #[{ on := 32, ground := .data }, { on := 28, ground := .chain }], guard := none } _ ?_
      try simp only [Act.put, List.setIfInBounds_toArray, List.set_cons_zero, List.set_cons_succ]
      refine tk 34 { dst := some 125, op := .load 30 (.tmp 6), type := 30, pos := "law.go:69", after := #[{ on := 33, ground := .guard }], guard := some (33, false) } _ ?_ (hy := fun wq hSw => kit.rld_L rfl rfl (TrnS.sl hSw))
      try simp only [Act.put, List.setIfInBounds_toArray, List.set_cons_zero, List.set_cons_succ]
      refine tk 35 { dst := some 126, op := .load 30 (.tmp 13), type := 30, pos := "law.go:69", after := #[{ on := 33, ground := .guard }], guard := some (33, false) } _ ?_ (hy := fun wq hSw => kit.rld_L rfl rfl (TrnS.sw hSw))
      try simp only [Act.put, List.setIfInBounds_toArray, List.set_cons_zero, List.set_cons_succ]
      refine wpAnyH_ready (rs := [36]) (by kernel_rfl) (by simp) ?_
      refine AllReadyH.cons (o := { dst := some 127, op := .call { callee := .value (.func 32), args := #[.tmp 125, .tmp 126], argTypes := #[30, 30] }, type := 4, pos := "law.go:69", after := #[{ on := 34, ground := .data }, { on := 35, ground := .data }, { on := 33, ground := .chain }, { on := 33, ground := .guard }], guard := some (33, false) }) rfl (fun KQ hKQ => ?_) AllReadyH.nil
      go_simp
      have CC := same_self L (some ⟨gR, 0, none⟩) n cc Aw n cw y33 RL RW (by have := hn60.out; omega)
      refine CC.mono ?_
      rintro e y34 ⟨rfl, hY⟩
      replace HB := HB.trans (hY.mono HB.size)
      replace kL := kL.below hY kL.lt
      replace kE := kE.below hY kE.lt
      replace kW := kW.below hY kW.lt
      replace kR := kR.below hY kR.lt
      replace kA := kA.below hY kA.lt
      replace kM := kM.below hY kM.lt
      replace kN := kN.below hY kN.lt
      replace kC := kC.below hY kC.lt
      replace kD := kD.below hY kD.lt
      replace RW := RW.on hY hY.size
      replace RL := RL.on hY hY.size
      replace R1 := R1.on hY hY.size
      replace Rm := Rm.on hY hY.size
      replace Rn := Rn.on hY hY.size
      replace Rc := Rc.on hY hY.size
      replace Rd := Rd.on hY hY.size
      replace R9 := R9.on hY hY.size
      replace hO1 := hO1.below hY
      replace hOm := hOm.below hY
      replace hOc := hOc.below hY
      clear CC
      clear hY
      go_wp2_with fail
      refine hKQ.out _ _ ?s_36 (fun hHeld36 => ?_)
      case s_36 => exact ⟨kL, kW, kE, kA, kM, kN, kC, kD, kL.cell 13, kW.cell 13, at_blk kR (zE_at hlh.out hcc.out)⟩
      clear hKQ KQ
      try simp only [Act.put, List.setIfInBounds_toArray, List.set_cons_zero, List.set_cons_succ]
      refine tk 37 { dst := some 128, op := .unOp .not 4 (.tmp 127), type := 4, pos := "law.go:69", after := #[{ on := 36, ground := .data }, { on := 33, ground := .guard }], guard := some (33, false) } _ ?_
      try simp only [Act.put, List.setIfInBounds_toArray, List.set_cons_zero, List.set_cons_succ]
      refine tk 38 { dst := some 129, op := .pick (.tmp 124) (.const (.bool true)) (.tmp 128), type := 4, pos := "law.go:69", after := #[{ on := 33, ground := .data }, { on := 37, ground := .data }], guard := none } _ ?_
      try simp only [Act.put, List.setIfInBounds_toArray, List.set_cons_zero, List.set_cons_succ]
      refine tk 39 { dst := some 130, op := .move (.tmp 129), type := 4, pos := "law.go:69", after := #[{ on := 38, ground := .data }, { on := 36, ground := .chain }], guard := none } _ ?_
      try simp only [Act.put, List.setIfInBounds_toArray, List.set_cons_zero, List.set_cons_succ]
      refine tk 40 { dst := some 131, op := .fieldAddr 30 (.tmp 6) 3, type := 0, pos := "law.go:69", after := #[{ on := 39, ground := .guard }], guard := some (39, false) } _ ?_
      try simp only [Act.put, List.setIfInBounds_toArray, List.set_cons_zero, List.set_cons_succ]
      refine tk 41 { dst := some 132, op := .load 28 (.tmp 131), type := 28, pos := "law.go:69", after := #[{ on := 40, ground := .data }, { on := 39, ground := .guard }], guard := some (39, false) } _ ?_ (hy := by (intro wq hSw; have hSw := TrnS.cells hSw; go_simp; first | done | with_reducible rfl))
      try simp only [Act.put, List.setIfInBounds_toArray, List.set_cons_zero, List.set_cons_succ]
      refine tk 42 { dst := some 133, op := .fieldAddr 30 (.tmp 13) 3, type := 0, pos := "law.go:69", after := #[{ on := 39, ground := .guard }], guard := some (39, false) } _ ?_
      try simp only [Act.put, List.setIfInBounds_toArray, List.set_cons_zero, List.set_cons_succ]
      refine tk 43 { dst := some 134, op := .load 28 (.tmp 133), type := 28, pos := "law.go:69", after := #[{ on := 42, ground := .data }, { on := 39, ground := .guard }], guard := some (39, false) } _ ?_ (hy := by (intro wq hSw; have hSw := TrnS.cells hSw; go_simp; first | done | with_reducible rfl))
      try simp only [Act.put, List.setIfInBounds_toArray, List.set_cons_zero, List.set_cons_succ]
      refine tk 44 { dst := some 135, op := .call { callee := .builtin .len, args := #[.tmp 134], argTypes := #[28] }, type := 3, pos := "law.go:69", after := #[{ on := 43, ground := .data }, { on := 39, ground := .guard }], guard := some (39, false) } _ ?_
      try simp only [Act.put, List.setIfInBounds_toArray, List.set_cons_zero, List.set_cons_succ]
      refine tk 45 { dst := some 136, op := .binOp .add 3 (.tmp 135) (.const (.int .i64 1)) 3, type := 3, pos := "law.go:69", after := #[{ on := 44, ground := .data }, { on := 39, ground := .guard }], guard := some (39, false) } _ ?_
      try simp only [Act.put, List.setIfInBounds_toArray, List.set_cons_zero, List.set_cons_succ]
      refine tk 46 { dst := some 137, op := .slice 28 (.tmp 132) none (some (.tmp 136)) none, type := 28, pos := "law.go:69", after := #[{ on := 41, ground := .data }, { on := 45, ground := .data }, { on := 39, ground := .guard }], guard := some (39, false) } (.slice (some ⟨gR, 0, none⟩) q cc) ?_ (hy := fun wq hSw => kit.run_slh rfl rfl rfl hqc.out hsl.out)
      try simp only [Act.put, List.setIfInBounds_toArray, List.set_cons_zero, List.set_cons_succ]
      refine tk 47 { dst := some 138, op := .fieldAddr 30 (.tmp 13) 3, type := 0, pos := "law.go:69", after := #[{ on := 39, ground := .guard }], guard := some (39, false) } _ ?_
      try simp only [Act.put, List.setIfInBounds_toArray, List.set_cons_zero, List.set_cons_succ]
      refine tk 48 { dst := some 139, op := .load 28 (.tmp 138), type := 28, pos := "law.go:69", after := #[{ on := 47, ground := .data }, { on := 39, ground := .guard }], guard := some (39, false) } _ ?_ (hy := by (intro wq hSw; have hSw := TrnS.cells hSw; go_simp; first | done | with_reducible rfl))
      try simp only [Act.put, List.setIfInBounds_toArray, List.set_cons_zero, List.set_cons_succ]
      refine tk 49 { dst := some 140, op := .call { callee := .builtin .len, args := #[.tmp 139], argTypes := #[28] }, type := 3, pos := "law.go:69", after := #[{ on := 48, ground := .data }, { on := 39, ground := .guard }], guard := some (39, false) } _ ?_
      try simp only [Act.put, List.setIfInBounds_toArray, List.set_cons_zero, List.set_cons_succ]
      refine tk 50 { dst := some 141, op := .indexAddr 28 (.tmp 137) (.tmp 140), type := 0, pos := "law.go:69", after := #[{ on := 46, ground := .data }, { on := 49, ground := .data }, { on := 39, ground := .guard }], guard := some (39, false) } _ ?_
      try simp only [Act.put, List.setIfInBounds_toArray, List.set_cons_zero, List.set_cons_succ]
      refine tk 51 { dst := some 142, op := .load 37 (.tmp 141), type := 37, pos := "law.go:69", after := #[{ on := 50, ground := .data }, { on := 39, ground := .guard }], guard := some (39, false) } (enV zE) ?_ (hy := fun wq hSw => kit.run_ldE rfl rfl (TrnS.z hSw))
      try simp only [Act.put, List.setIfInBounds_toArray, List.set_cons_zero, List.set_cons_succ]
      refine tk 52 { dst := some 143, op := .build 37 #[], type := 37, pos := "law.go:69", after := #[{ on := 39, ground := .guard }], guard := some (39, false) } (enV zE) ?_ (hy := fun wq hSw => run_bz rfl)
      try simp only [Act.put, List.setIfInBounds_toArray, List.set_cons_zero, List.set_cons_succ]
      refine tk 53 { dst := some 144, op := .binOp .neq 37 (.tmp 142) (.tmp 143) 37, type := 4, pos := "law.go:69", after := #[{ on := 51, ground := .data }, { on := 52, ground := .data }, { on := 39, ground := .guard }], guard := some (39, false) } (.bool false) ?_ (hy := fun wq hSw => run_nz rfl rfl rfl)
      try simp only [Act.put, List.setIfInBounds_toArray, List.set_cons_zero, List.set_cons_succ]
      refine tk 54 { dst := some 145, op := .pick (.tmp 130) (.const (.bool true)) (.tmp 144), type := 4, pos := "law.go:69", after := #[{ on := 39, ground := .data }, { on := 53, ground := .data }], guard := none } _ ?_
      try simp only [Act.put, List.setIfInBounds_toArray, List.set_cons_zero, List.set_cons_succ]
      refine wpAnyH_done (by kernel_rfl) ?_ _
      clear kN kD RL RW R1 R9 Rm Rn Rc Rd kR kW kE
      go_wp2_with (first | refine kit.lo_L _ rfl rfl rfl kA ?_ | refine kit.lo_L _ rfl rfl rfl kM ?_ | refine kit.lo_L _ rfl rfl rfl kC ?_)
      have CC := wipe_any PU A1 (n + 1) c1 PU.es y34 _ hO1 (Nat.le_of_lt (Nat.lt_of_le_of_lt hb1.out kA.lt)) (by have := hn60.out; omega)
      refine CC.mono ?_
      rintro e y35 ⟨rfl, hY, hq2⟩
      replace HB := HB.trans (hY.mono (h01.out))
      replace kM : Blk 30 y35 gkM _ := (hq2 _ kM.lt (fun b o e => Nat.ne_of_lt (Nat.lt_trans (hA1.out b o e).2 LTkAkM.out))).trans kM
      replace kC : Blk 30 y35 gkC _ := (hq2 _ kC.lt (fun b o e => Nat.ne_of_lt (Nat.lt_trans (hA1.out b o e).2 LTkAkC.out))).trans kC
      replace hOm := hOm.wiped (fun g h1 h2 => hq2 g h2 (fun b o e => Nat.ne_of_lt (Nat.lt_of_lt_of_le (Nat.lt_trans (hA1.out b o e).2 gAm.out) h1)))
      replace hOc := hOc.wiped (fun g h1 h2 => hq2 g h2 (fun b o e => Nat.ne_of_lt (Nat.lt_of_lt_of_le (Nat.lt_trans (hA1.out b o e).2 gAc.out) h1)))
      clear CC hY hq2
      clear kA hO1
      rcases okb with _ | _
      · skip
        clear kM hOm
        go_wp2_with (first | refine kit.lo_L _ rfl rfl rfl kC ?_)
        have CC := wipe_any C Ac nc c3 C.es y35 _ hOc (Nat.le_of_lt (Nat.lt_of_le_of_lt hbc.out kC.lt)) (by have := hnc.out; have := hCl.out; omega)
        refine CC.mono ?_
        rintro e y36 ⟨rfl, hY, hq2⟩
        replace HB := HB.trans (hY.mono (Nat.le_trans (Nat.le_trans h01.out hb1.out) (Nat.le_of_lt gAc.out)))
        clear CC hY hq2
        clear kC hOc
        go_wp2_with fail
        go_roundw
        case rel => exact ⟨k + 1, by have := hk2.out; omega, rfl, Lib.hid HB⟩
        case measure => have := hk2.out; simp only [intOf]; omega
      · skip
        go_wp2_with (first | refine kit.lo_L _ rfl rfl rfl kM ?_ | refine kit.lo_L _ rfl rfl rfl kC ?_)
        have CC := wipe_any M Am nm cm M.es y35 _ hOm (Nat.le_of_lt (Nat.lt_of_le_of_lt hbm.out kM.lt)) (by have := hnm.out; have := hMl.out; omega)
        refine CC.mono ?_
        rintro e y36 ⟨rfl, hY, hq2⟩
        replace HB := HB.trans (hY.mono (Nat.le_trans (Nat.le_trans h01.out hb1.out) (Nat.le_of_lt gAm.out)))
        replace kC : Blk 30 y36 gkC _ := (hq2 _ kC.lt (fun b o e => Nat.ne_of_lt (Nat.lt_trans (hAm.out b o e).2 LTkMkC.out))).trans kC
        replace hOc := hOc.wiped (fun g h1 h2 => hq2 g h2 (fun b o e => Nat.ne_of_lt (Nat.lt_of_lt_of_le (Nat.lt_trans (hAm.out b o e).2 gMc.out) h1)))
        clear CC hY hq2
        clear kM hOm
        go_wp2_with (first | refine kit.lo_L _ rfl rfl rfl kC ?_)
        have CC := wipe_any C Ac nc c3 C.es y36 _ hOc (Nat.le_of_lt (Nat.lt_of_le_of_lt hbc.out kC.lt)) (by have := hnc.out; have := hCl.out; omega)
        refine CC.mono ?_
        rintro e y37 ⟨rfl, hY, hq2⟩
        replace HB := HB.trans (hY.mono (Nat.le_trans (Nat.le_trans h01.out hb1.out) (Nat.le_of_lt gAc.out)))
        clear CC hY hq2
        clear kC hOc
        go_wp2_with fail
        go_roundw
        case rel => exact ⟨k + 1, by have := hk2.out; omega, rfl, Lib.hid HB⟩
        case measure => have := hk2.out; simp only [intOf]; omega
    · skip
      have kL := BkL.out.below HY.out BkL.out.lt
      have kE := BkE.out.below HY.out BkE.out.lt
      have kW := BkW.out.below HY.out BkW.out.lt
      have kR := BkR.out.below HY.out BkR.out.lt
      have RW := BRW.out.on HY.out HY.out.size
      have E0 := BE0.out.on HY.out HY.out.size
      have HB := HY.out
      obtain rfl : k = 2 := by omega
      have ck : ¬ (((2 : Nat) : Int) < 2) := by omega
      clear kL kE kW kR RW E0
      go_wp2_with fail
      go_ret
      exact ⟨rfl, BH.out.trans (HB.mono BH.out.size)⟩
end Go.Proofs.Yteadkgjikaikjaa.law12
