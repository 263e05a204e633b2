/- The landed core: New. Conditions: none. -/
import Derived.Deep.RegionHeld3
import Derived.Deep.Cut
import Derived.Lib.Hide
import Derived.BigQuiet
import Derived.Test.YtegnfkbmlalkeaaGreatSpKitCl
import Derived.Test.YtegnfkbmlalkeaaGreatSpJ3
import Derived.Test.YtegnfkbmlalkeaaGreatSpJ1
import Derived.Test.YtegnfkbmlalkeaaGreatSpKitLg
import Derived.Test.YtegnfkbmlalkeaaGreatSpJ0
import Derived.Test.YtegnfkbmlalkeaaGreatSpConfJ
import Derived.Test.YtegnfkbmlalkeaaGreatSpJ2
import Derived.Test.YtegnfkbmlalkeaaGreatSpSetsI
import Derived.Test.YtegnfkbmlalkeaaGreatSpEntJ
import Derived.Test.YtegnfkbmlalkeaaGreatSpEntD
import Derived.Test.YtegnfkbmlalkeaaGreatSpEntE
set_option linter.unusedVariables false
set_option maxHeartbeats 16000000
set_option maxRecDepth 10000
namespace Go.Proofs.YtegnfkbmlalkeaaGreat.kit
open Go Go.RowKit kit nums cf lg cr
section
variable {w : World} {ops : Array Oper} {rest : List Oper} {o : Oper} {a : Act} {Q : Exit → Act → World → Prop} {g : Nat} {E : TypeId}
theorem bd_f3 {q0 q1 q2 : Operand} (s : Nat) (x y : Int) (ho : o.op = .build 25 #[(0, q0), (3, q1), (4, q2)]) (hw : Region.wanted o (yielded ops a.tmps) = true) (h0 : a.eval q0 = .int .u16 (s : Int)) (h1 : a.eval q1 = .int .i64 x) (h2 : a.eval q2 = .int .i64 y)
  (h : wpList Tryz.prog ops Q rest (a.put o.dst (cfV ⟨s, 0, 0, x, y⟩)) w) : wpList Tryz.prog ops Q (o :: rest) a w := by
 refine wpList_val hw ?_ h
 have hr : (Instr.build 25 #[(0, .int .u16 (s : Int)), (3, .int .i64 x), (4, .int .i64 y)]).run Tryz.prog w = .ok (cfV ⟨s, 0, 0, x, y⟩) w := by kernel_rfl
 unfold execOp
 simp [ho, h0, h1, h2, hr]
theorem bd_j1 {q0 : Operand} (c : CfL) (ho : o.op = .build 27 #[(0, q0)]) (hw : Region.wanted o (yielded ops a.tmps) = true) (h0 : a.eval q0 = cfV c)
  (h : wpList Tryz.prog ops Q rest (a.put o.dst (jV ⟨c, zeroC, false⟩)) w) : wpList Tryz.prog ops Q (o :: rest) a w := by
 refine wpList_val hw ?_ h
 have hr : (Instr.build 27 #[(0, cfV c)]).run Tryz.prog w = .ok (jV ⟨c, zeroC, false⟩) w := by kernel_rfl
 unfold execOp
 simp [ho, h0, hr]
theorem bd_vot {q0 q1 q2 q3 q8 : Operand} (k f t m : Int) (y : Bool) (ho : o.op = .build 49 #[(0, q0), (1, q1), (2, q2), (3, q3), (8, q8)]) (hw : Region.wanted o (yielded ops a.tmps) = true) (h0 : a.eval q0 = .int .i64 k) (h1 : a.eval q1 = .int .i64 f) (h2 : a.eval q2 = .int .i64 t) (h3 : a.eval q3 = .int .i64 m) (h8 : a.eval q8 = .bool y)
  (h : wpList Tryz.prog ops Q rest (a.put o.dst (msV { zM with k := k, f := f, t := t, m := m, y := y } (.slice none 0 0))) w) : wpList Tryz.prog ops Q (o :: rest) a w := by
 refine wpList_val hw ?_ h
 have hr : (Instr.build 49 #[(0, .int .i64 k), (1, .int .i64 f), (2, .int .i64 t), (3, .int .i64 m), (8, .bool y)]).run Tryz.prog w = .ok (msV { zM with k := k, f := f, t := t, m := m, y := y } (.slice none 0 0)) w := by kernel_rfl
 unfold execOp
 simp [ho, h0, h1, h2, h3, h8, hr]
end
end Go.Proofs.YtegnfkbmlalkeaaGreat.kit
namespace Go.Proofs.YtegnfkbmlalkeaaGreat.kit
open Go Go.RowKit kit nums cf lg cr
def InM (w : World) (B : Nat) (A : Option Addr) (n : Nat) (xs : List (MsL × Value)) : Prop :=
 xs.length = n ∧ (0 < n → ∃ b o, A = some ⟨b, o, none⟩ ∧ b < B ∧ ∀ (j : Nat) (x : MsL × Value), xs[j]? = some x → At w b (o + j * 22) (msC x.1 x.2)) ∧
  ∀ x ∈ xs, ∃ A' n' p', x.2 = .slice A' n' p' ∧ n' ≤ p' ∧ RdE w B A' n' x.1.es
def NotM (g : Nat) (A : Option Addr) (n : Nat) (xs : List (MsL × Value)) : Prop := NotIn g A n ∧ ∀ x ∈ xs, ∀ A' n' p', x.2 = .slice A' n' p' → NotIn g A' n'
section
variable {w w' : World} {B B' n g : Nat} {A : Option Addr} {xs : List (MsL × Value)}
theorem InM.len (h : InM w B A n xs) : xs.length = n := h.1
theorem InM.below (h : InM w B A n xs) (hb : Below B w w') : InM w' B A n xs := ⟨h.1, fun hn => by
 obtain ⟨b, o, e, hlt, hc⟩ := h.2.1 hn
 exact ⟨b, o, e, hlt, fun j x hx => (hc j x hx).below hlt hb⟩, fun x hx => by
 obtain ⟨A', n', p', e, h1, h2⟩ := h.2.2 x hx
 exact ⟨A', n', p', e, h1, h2.below hb⟩⟩
theorem InM.more (h : InM w B A n xs) (hB : B ≤ B') : InM w B' A n xs := ⟨h.1, fun hn => by
 obtain ⟨b, o, e, hlt, hc⟩ := h.2.1 hn
 exact ⟨b, o, e, by omega, hc⟩, fun x hx => by
 obtain ⟨A', n', p', e, h1, h2⟩ := h.2.2 x hx
 exact ⟨A', n', p', e, h1, h2.more hB⟩⟩
theorem InM.on (h : InM w B A n xs) (hb : Below B w w') (hB : B ≤ B') : InM w' B' A n xs := (h.below hb).more hB
theorem InM.nil (w : World) (B : Nat) (A : Option Addr) : InM w B A 0 [] := ⟨rfl, fun h => absurd h (by omega), fun x hx => by cases hx⟩
theorem InM.at_ (h : InM w B A n xs) {j : Nat} (hj : j < n) : ∃ b o x A' n' p', A = some ⟨b, o, none⟩ ∧ b < B ∧ xs[j]? = some x ∧ x.2 = .slice A' n' p' ∧ n' ≤ p' ∧ At w b (o + j * 22) (msC x.1 (.slice A' n' p')) ∧ RdE w B A' n' x.1.es := by
 obtain ⟨b, o, e, hlt, hc⟩ := h.2.1 (by omega)
 have hl : j < xs.length := by rw [h.1]; exact hj
 have hg := List.getElem?_eq_getElem hl
 obtain ⟨A', n', p', e2, h1, h2⟩ := h.2.2 xs[j] (List.getElem_mem hl)
 have := hc j _ hg
 rw [e2] at this
 exact ⟨b, o, xs[j], A', n', p', e, hlt, hg, e2, h1, this, h2⟩
theorem at_put {b o : Nat} {l : List Value} (h : At w b o l) (hp : Put w w' g) (hb : b ≠ g) : At w' b o l := fun j u hu => by
 have := h j u hu
 unfold World.cell? at this ⊢
 rw [hp.other b hb]
 exact this
theorem InM.putS (h : InM w w.heap.size A n xs) (hp : Put w w' g) (hn : NotM g A n xs) : InM w' w'.heap.size A n xs := by
 rw [hp.size]
 exact ⟨h.1, fun h0 => by
  obtain ⟨b, o, e, hlt, hc⟩ := h.2.1 h0
  exact ⟨b, o, e, hlt, fun j x hx => at_put (hc j x hx) hp (hn.1 b o h0 e)⟩, fun x hx => by
  obtain ⟨A', n', p', e, h1, h2⟩ := h.2.2 x hx
  exact ⟨A', n', p', e, h1, h2.putN hp (hn.2 x hx A' n' p' e)⟩⟩
theorem NotM.of_in (h : InM w B A n xs) (hb : B ≤ g) : NotM g A n xs := ⟨fun b off h0 e => by
 obtain ⟨b', o, e', hlt, _⟩ := h.2.1 h0
 rw [e] at e'
 cases e'
 omega, fun x hx A' n' p' e => by
 obtain ⟨A2, n2, p2, e2, _, h2⟩ := h.2.2 x hx
 rw [e] at e2
 cases e2
 exact NotIn.of_rd h2 hb⟩
theorem NotM.nil (g : Nat) (A : Option Addr) : NotM g A 0 [] := ⟨NotIn.nil _ _, fun x hx => by cases hx⟩
theorem OwnM.in_ {base : Nat} {v : Value} (h : OwnM w base v xs) : ∃ A c, v = .slice A xs.length c ∧ xs.length ≤ c ∧ (0 < xs.length → ∃ b o, A = some ⟨b, o, none⟩ ∧ base ≤ b ∧ b < w.heap.size ∧ ∀ (j : Nat) (x : MsL × Value), xs[j]? = some x → At w b (o + j * 22) (msC x.1 x.2)) := by
 rcases h.2 with ⟨hv, hn⟩ | ⟨g, cap, cur, rfl, hb, hg, hnc, hcm, hcs, htake⟩
 · exact ⟨none, 0, by rw [hv, hn], by omega, fun hp => absurd hp (by omega)⟩
 ·
  refine ⟨_, cap, rfl, hnc, fun hp => ⟨g, 0, rfl, hb, lt_of_block hg, fun j x hx q u hu => ?_⟩⟩
  have hq : q < 22 := (List.getElem?_eq_some_iff.1 hu).1
  have hj : j < xs.length := (List.getElem?_eq_some_iff.1 hx).1
  have hget := flat_get (fun x : MsL × Value => msC x.1 x.2) 22 (fun x => ms_len x.1 x.2) xs j q x hx hq
  rw [← htake, List.getElem?_take, if_pos (by omega)] at hget
  rw [Nat.zero_add, cell_of_row w g _ _ _ (0, 0) hg, ← Array.getElem?_toList, hget]
  exact hu
theorem OutL.in_ {v : Value} {ms : List MsL} (h : OutL w B v ms) (hB : B ≤ w.heap.size) : ∃ A c xs, v = .slice A ms.length c ∧ xs.map Prod.fst = ms ∧ InM w w.heap.size A ms.length xs ∧ ∀ g, g < B → NotM g A ms.length xs := by
 obtain ⟨xs, h1, h2, h3⟩ := h
 obtain ⟨A, c, e, _, h4⟩ := OwnM.in_ h1
 have hl : xs.length = ms.length := by rw [← h2, List.length_map]
 rw [hl] at e h4
 refine ⟨A, c, xs, e, h2, ⟨hl, fun h0 => ?_, fun x hx => ?_⟩, fun g hg => ⟨fun b off h0 e2 => ?_, fun x hx A' n' p' e2 => ?_⟩⟩
 ·
  obtain ⟨b, o, e1, _, hlt, hc⟩ := h4 h0
  exact ⟨b, o, e1, hlt, hc⟩
 ·
  obtain ⟨A', n', p', e1, h5⟩ := h3 x hx
  have h6 := h5.cap
  exact ⟨A', n', p', e1, h6.2.1, h6.2.2.2⟩
 ·
  obtain ⟨b', o, e1, hb, _⟩ := h4 h0
  rw [e2] at e1
  cases e1
  omega
 ·
  obtain ⟨A2, n2, p2, e1, h5⟩ := h3 x hx
  rw [e2] at e1
  cases e1
  intro b off _ eb
  have := (h5.blk_lt b off eb).1
  omega
end
end Go.Proofs.YtegnfkbmlalkeaaGreat.kit
namespace Go.Proofs.YtegnfkbmlalkeaaGreat.kit
open Go Go.RowKit kit nums cf lg cr
theorem rdms_in {w : World} {v : Value} {ms : List MsL} (h : ref13.RdMs w v ms) : ∃ A c xs, v = .slice A ms.length c ∧ xs.map Prod.fst = ms ∧ InM w w.heap.size A ms.length xs := by
 obtain ⟨xs, h1, h2, h3⟩ := h
 obtain ⟨A, c, e, _, h4⟩ := OwnM.in_ h1
 have hl : xs.length = ms.length := by rw [← h2, List.length_map]
 rw [hl] at e h4
 refine ⟨A, c, xs, e, h2, ⟨hl, fun h0 => ?_, h3⟩⟩
 obtain ⟨b, o, e1, _, hlt, hc⟩ := h4 h0
 exact ⟨b, o, e1, hlt, hc⟩
end Go.Proofs.YtegnfkbmlalkeaaGreat.kit
namespace Go.Proofs.YtegnfkbmlalkeaaGreat.law13
open Go Go.RowKit kit nums cf lg cr se
theorem light_any (c : CoL) (A : Option Addr) (n p : Nat) (w : World) (B : Nat) (hR : RdE w B A n c.lg.es) (hB : B ≤ w.heap.size) (hp : n ≤ p) : Calls Tryz.prog 12 #[crV c (.slice A n p)] w fun e w' => ∃ bl, e = .returned (.bool bl) ∧ Hid (bl = true → n ≤ 60) ∧ Below w.heap.size w w' := by
 have hn2 := Lh hp
 have R0 := hR.more hB
 clear hR hB
 go_enter Tryz.func12, Tryz.ntmps12
 go_wp2_with (first | go_skip | refine box_C rfl _ rfl c (.slice A n p) rfl ?_ | fail)
 intro y1 kC e1 s1
 clear s1
 have HB := e1
 replace R0 := R0.on e1 e1.size
 clear e1
 go_wp2_with (first | go_skip | refine lo_Cj kC ?_ | refine lo_cLj kC ?_ | refine lo_cJj kC ?_)
 refine (law12.light_any c.lg A n p none 0 0 [] y1 y1.heap.size y1.heap.size R0 (Nat.le_refl _) (RdE.nil _ _ _) (Nat.le_refl _)).mono ?_
 rintro e y9 ⟨bl, rfl, hbl, hY⟩
 replace HB := bt HB hY
 replace kC := kC.b hY
 replace R0 := R0.on hY hY.size
 clear hY
 rcases bl with _ | _
 ·
  go_wp2_with (first | go_skip | refine lo_Cj kC ?_ | refine lo_cLj kC ?_ | refine lo_cJj kC ?_)
  go_ret
  exact ⟨false, rfl, Lh (fun h => by cases h), HB⟩
 have hle := Lh (hbl.out rfl).1
 have csn : y9.cell? ⟨w.heap.size, 22, none⟩ = some (.string c.sn) := by exact kC.cell 22
 go_wp2_with (first | go_skip | refine lo_Cj kC ?_ | refine lo_cLj kC ?_ | refine lo_cJj kC ?_)
 go_ret
 exact ⟨_, rfl, Lh (fun _ => hle.out), HB⟩
end Go.Proofs.YtegnfkbmlalkeaaGreat.law13
namespace Go.Proofs.YtegnfkbmlalkeaaGreat.cor
open Go Go.RowKit kit nums cf lg cr se
def wiB (n a m : Int) : Bool := decide (a ≤ n) && decide (n ≤ m)
theorem within_any (n a m : Int) (w : World) : Calls Tryz.prog 50 #[.int .i64 n, .int .i64 a, .int .i64 m] w fun e w' => e = .returned (.bool (wiB n a m)) ∧ w = w' := by
 go_enter Tryz.func50, Tryz.ntmps50
 by_cases h1 : a ≤ n
 ·
  by_cases h2 : n ≤ m
  ·
   have e := Lh (show wiB n a m = true by unfold wiB; rw [decide_eq_true h1, decide_eq_true h2]; rfl)
   go_wp2
   go_ret
   exact ⟨by rw [e.out]; rfl, rfl⟩
  ·
   have e := Lh (show wiB n a m = false by unfold wiB; rw [decide_eq_true h1, decide_eq_false h2]; rfl)
   go_wp2
   go_ret
   exact ⟨by rw [e.out]; rfl, rfl⟩
 ·
  have e := Lh (show wiB n a m = false by unfold wiB; rw [decide_eq_false h1]; rfl)
  go_wp2
  go_ret
  exact ⟨by rw [e.out]; rfl, rfl⟩
theorem isnode_any (n : Int) (w : World) : Calls Tryz.prog 49 #[.int .i64 n] w fun e w' => e = .returned (.bool (nodeB n)) ∧ w = w' := by
 go_enter Tryz.func49, Tryz.ntmps49
 go_wp2_with fail
 refine (within_any n 1 9 w).mono ?_
 rintro e w1 ⟨rfl, rfl⟩
 go_wp2_with fail
 go_ret
 exact ⟨rfl, rfl⟩
theorem pat_any (id : Int) (w : World) (h : 0 ≤ id ∧ id ≤ 1000000) : Calls Tryz.prog 24 #[.int .i64 id] w fun e w' => e = .returned (.int .i64 (patF id)) ∧ w = w' := by
 have h1 : 12 + IntKind.i64.wrap (4 * id) = 12 + 4 * id := by rw [wrap_sm (by omega) (by omega)]
 have h2 : IntKind.i64.wrap (4 * id) = 4 * id := by rw [wrap_sm (by omega) (by omega)]
 have h3 : IntKind.i64.wrap (12 + 4 * id) = 12 + 4 * id := by rw [wrap_sm (by omega) (by omega)]
 go_enter Tryz.func24, Tryz.ntmps24
 go_wp2
 go_ret
 exact ⟨rfl, rfl⟩
theorem bounded_any (v : Int) (w : World) : Calls Tryz.prog 77 #[.int .i64 v] w fun e w' => e = .returned (.int .i64 (bouF v)) ∧ w = w' := by
 go_enter Tryz.func77, Tryz.ntmps77
 go_wp2
 all_goals (go_ret; refine ⟨?_, rfl⟩; first | exact congrArg (fun z => Ending.returned (.int .i64 z)) (by unfold bouF; omega) | (simp; unfold bouF; omega))
theorem stepDown_any (c : CoL) (A : Option Addr) (n p : Nat) (w : World) : Calls Tryz.prog 113 #[crV c (.slice A n p)] w fun e w' => e = .returned (crV (yieC c) (.slice A n p)) ∧ Below w.heap.size w w' := by
 go_enter Tryz.func113, Tryz.ntmps113
 have LEkC : Hid (w.heap.size ≤ w.heap.size) := Nat.le_refl _
 go_wp2_with (first | refine box_C rfl _ rfl c (.slice A n p) rfl ?_ | fail)
 intro y1 kC e1 s1
 clear s1
 have HB := e1
 clear e1
 have LTkCkO := Lh kC.lt
 have LEkO : Hid (w.heap.size ≤ y1.heap.size) := HB.size
 go_wp2_with (first | refine al_C rfl rfl ?_ | (first | refine lo_Cj kC ?_ | refine lo_cLj kC ?_ | refine lo_cJj kC ?_))
 intro y2 kO e2 s2
 clear s2
 replace kO : Blk _ _ _ (crC zC (.slice none 0 0)) := kO
 replace HB := bt HB e2
 replace kC := kC.b e2
 clear e2
 generalize y1.heap.size = gkO at *
 have df := fun i => kC.frozen i
 have cR1 : _ = some _ := kC.cell 1
 have cR4 : _ = some _ := kC.cell 4
 have cR5 : _ = some _ := kC.cell 5
 go_upto_region 2 with (fail)
 clear df cR1 cR4 cR5
 have kC2 : Blk 33 _ w.heap.size (crC { c with ro := 0 } (.slice A n p)) := kC.set_ 1 (.int .i64 0)
 have pO := put_set y2 w.heap.size (1) (.int .i64 0)
 generalize (y2.setCell ⟨w.heap.size, 1, none⟩ (.int .i64 0)) = y3 at *
 replace kO := kO.put pO (Nat.ne_of_gt LTkCkO.out)
 replace HB := pO.below _ _ HB LEkC.out
 clear kC
 have kC := kC2
 clear kC2 pO
 have kC2 : Blk 33 _ w.heap.size (crC { c with ro := 0, le := 0 } (.slice A n p)) := kC.set_ 4 (.int .i64 0)
 have pO := put_set y3 w.heap.size (4) (.int .i64 0)
 generalize (y3.setCell ⟨w.heap.size, 4, none⟩ (.int .i64 0)) = y4 at *
 replace kO := kO.put pO (Nat.ne_of_gt LTkCkO.out)
 replace HB := pO.below _ _ HB LEkC.out
 clear kC
 have kC := kC2
 clear kC2 pO
 have kC2 : Blk 33 _ w.heap.size (crC (yieC c) (.slice A n p)) := kC.set_ 5 (.int .i64 0)
 have pO := put_set y4 w.heap.size (5) (.int .i64 0)
 generalize (y4.setCell ⟨w.heap.size, 5, none⟩ (.int .i64 0)) = y5 at *
 replace kO := kO.put pO (Nat.ne_of_gt LTkCkO.out)
 replace HB := pO.below _ _ HB LEkC.out
 clear kC
 have kC := kC2
 clear kC2 pO
 go_wp2_with (first | refine st_C rfl _ _ rfl (yieC c) A n p rfl rfl _ kO rfl ?_ | (first | refine lo_Cj kC ?_ | refine lo_cLj kC ?_ | refine lo_cJj kC ?_ | refine lo_Cj kO ?_ | refine lo_cLj kO ?_ | refine lo_cJj kO ?_))
 intro y6 kO2 pO
 replace kC := kC.put pO (Nat.ne_of_lt LTkCkO.out)
 replace HB := pO.below _ _ HB LEkO.out
 clear kO
 have kO := kO2
 clear kO2 pO
 go_wp2_with (first | refine lo_Cj kC ?_ | refine lo_cLj kC ?_ | refine lo_cJj kC ?_ | refine lo_Cj kO ?_ | refine lo_cLj kO ?_ | refine lo_cJj kO ?_)
 (try simp only [Exit.inBlock, Exit.then])
 refine bodyPost_ret (res1 Tryz.results113 rfl (aggC _) (sizeC _) (ldCv kO)) rfl ?_
 exact ⟨rfl, HB⟩
theorem bd_let {w : World} {ops : Array Oper} {rest : List Oper} {o : Oper} {a : Act} {Q : Exit → Act → World → Prop} {q0 q1 q2 q3 : Operand} (k f t m : Int) (ho : o.op = .build 49 #[(0, q0), (1, q1), (2, q2), (3, q3)]) (hw : Region.wanted o (yielded ops a.tmps) = true) (h0 : a.eval q0 = .int .i64 k) (h1 : a.eval q1 = .int .i64 f) (h2 : a.eval q2 = .int .i64 t) (h3 : a.eval q3 = .int .i64 m)
  (h : wpList Tryz.prog ops Q rest (a.put o.dst (msV { zM with k := k, f := f, t := t, m := m } (.slice none 0 0))) w) : wpList Tryz.prog ops Q (o :: rest) a w := by
 refine wpList_val hw ?_ h
 have hr : (Instr.build 49 #[(0, .int .i64 k), (1, .int .i64 f), (2, .int .i64 t), (3, .int .i64 m)]).run Tryz.prog w = .ok (msV { zM with k := k, f := f, t := t, m := m } (.slice none 0 0)) w := by kernel_rfl
 unfold execOp
 simp [ho, h0, h1, h2, h3, hr]
def letM (c : CoL) (k t : Int) : MsL := { zM with k := k, f := c.id, t := t, m := c.tm }
theorem letter_any (c : CoL) (A : Option Addr) (n p : Nat) (k t : Int) (w : World) : Calls Tryz.prog 122 #[crV c (.slice A n p), .int .i64 k, .int .i64 t] w fun e w' => e = .returned (msV (letM c k t) (.slice none 0 0)) ∧ Below w.heap.size w w' := by
 go_enter Tryz.func122, Tryz.ntmps122
 go_wp2_with (first | refine box_C rfl _ rfl c (.slice A n p) rfl ?_ | fail)
 intro y1 kC e1 s1
 clear s1
 have HB := e1
 clear e1
 have LTkCkO := Lh kC.lt
 have LEkO : Hid (w.heap.size ≤ y1.heap.size) := HB.size
 go_wp2_with (first | refine al_M rfl rfl ?_ | (first | refine lo_Cj kC ?_ | refine lo_cLj kC ?_ | refine lo_cJj kC ?_))
 intro y2 kO e2 s2
 clear s2
 replace kO : Blk _ _ _ (msC zM (.slice none 0 0)) := kO
 replace HB := bt HB e2
 replace kC := kC.b e2
 clear e2
 generalize y1.heap.size = gkO at *
 have c0 : _ = some (Value.int .i64 c.id) := kC.cell 0
 have c2 : _ = some (Value.int .i64 c.tm) := kC.cell 2
 go_wp2_with (first | refine st_M rfl _ _ rfl (letM c k t) none 0 0 rfl rfl _ kO rfl ?_ | (first | refine lo_Cj kC ?_ | refine lo_cLj kC ?_ | refine lo_cJj kC ?_ | refine lo_Mj kO ?_ | refine lo_mJj kO ?_ | refine bd_let k c.id t c.tm rfl rfl rfl rfl rfl rfl ?_))
 intro y3 kO2 pO
 replace kC := kC.put pO (Nat.ne_of_lt LTkCkO.out)
 replace HB := pO.below _ _ HB LEkO.out
 clear kO
 have kO := kO2
 clear kO2 pO
 clear c0 c2
 go_wp2_with (first | refine lo_Cj kC ?_ | refine lo_cLj kC ?_ | refine lo_cJj kC ?_ | refine lo_Mj kO ?_ | refine lo_mJj kO ?_)
 (try simp only [Exit.inBlock, Exit.then])
 refine bodyPost_ret (res1 Tryz.results122 rfl (aggM _) (sizeM _) (ldMv kO)) rfl ?_
 exact ⟨rfl, HB⟩
end Go.Proofs.YtegnfkbmlalkeaaGreat.cor
namespace Go.Proofs.YtegnfkbmlalkeaaGreat.cor
open Go Go.RowKit kit nums cf lg cr se
theorem deaf_form (c : CoL) (m : MsL) : deafB c m = (!(m.t == c.id) || (m.f == c.id || (!nodeB m.f || (!wiB m.m 1 1099511627776 || (decide (m.k < 1) || (decide (6 < m.k) || (m.k == 1 && (c.ro == 2 || (!(c.le == 0) && decide (c.wa < 10)))))))))) := by
 unfold deafB wiB
 have h1 : decide (m.m < 1) = !decide (1 ≤ m.m) := by rw [← decide_not, decide_eq_decide]; omega
 have h2 : decide (1099511627776 < m.m) = !decide (m.m ≤ 1099511627776) := by rw [← decide_not, decide_eq_decide]; omega
 rw [h1, h2]
 cases (m.t == c.id) <;> cases nodeB m.f <;> cases (m.f == c.id) <;> cases decide (1 ≤ m.m) <;> cases decide (m.m ≤ 1099511627776) <;> simp [Bool.or_assoc]
theorem ignores_any (c : CoL) (A : Option Addr) (n p : Nat) (m : MsL) (Am : Option Addr) (nm pm : Nat) (w : World) : Calls Tryz.prog 74 #[crV c (.slice A n p), msV m (.slice Am nm pm)] w fun e w' => e = .returned (.bool (deafB c m)) ∧ Below w.heap.size w w' := by
 have hDf := deaf_form c m
 obtain ⟨mt, hmt⟩ : ∃ q, m.t = q := ⟨_, rfl⟩
 obtain ⟨mf, hmf⟩ : ∃ q, m.f = q := ⟨_, rfl⟩
 obtain ⟨mm, hmm⟩ : ∃ q, m.m = q := ⟨_, rfl⟩
 obtain ⟨mk, hmk⟩ : ∃ q, m.k = q := ⟨_, rfl⟩
 obtain ⟨id, hid⟩ : ∃ q, c.id = q := ⟨_, rfl⟩
 obtain ⟨ro, hro⟩ : ∃ q, c.ro = q := ⟨_, rfl⟩
 obtain ⟨le, hle⟩ : ∃ q, c.le = q := ⟨_, rfl⟩
 obtain ⟨wa, hwa⟩ : ∃ q, c.wa = q := ⟨_, rfl⟩
 rw [hmt, hmf, hmm, hmk, hid, hro, hle, hwa] at hDf
 replace hDf := Lh hDf
 replace hmt := Lh hmt
 replace hmf := Lh hmf
 replace hmm := Lh hmm
 replace hmk := Lh hmk
 replace hid := Lh hid
 replace hro := Lh hro
 replace hle := Lh hle
 replace hwa := Lh hwa
 go_enter Tryz.func74, Tryz.ntmps74
 go_wp2_with (first | refine box_C rfl _ rfl c (.slice A n p) rfl ?_ | fail)
 intro y1 kC e1 s1
 clear s1
 have HB := e1
 clear e1
 go_wp2_with (first | refine box_M rfl _ rfl m (.slice Am nm pm) rfl ?_ | (first | refine lo_Cj kC ?_ | refine lo_cLj kC ?_ | refine lo_cJj kC ?_))
 intro y2 kM e2 s2
 clear s2
 replace HB := bt HB e2
 replace kC := kC.b e2
 clear e2
 generalize y1.heap.size = gkM at *
 have c_mt : y2.cell? ⟨gkM, 2, none⟩ = some (.int .i64 mt) := by rw [← hmt.out]; exact kM.cell 2
 have c_mf : y2.cell? ⟨gkM, 1, none⟩ = some (.int .i64 mf) := by rw [← hmf.out]; exact kM.cell 1
 have c_mm : y2.cell? ⟨gkM, 3, none⟩ = some (.int .i64 mm) := by rw [← hmm.out]; exact kM.cell 3
 have c_mk : y2.cell? ⟨gkM, 0, none⟩ = some (.int .i64 mk) := by rw [← hmk.out]; exact kM.cell 0
 have c_id : y2.cell? ⟨w.heap.size, 0, none⟩ = some (.int .i64 id) := by rw [← hid.out]; exact kC.cell 0
 have c_ro : y2.cell? ⟨w.heap.size, 1, none⟩ = some (.int .i64 ro) := by rw [← hro.out]; exact kC.cell 1
 have c_le : y2.cell? ⟨w.heap.size, 4, none⟩ = some (.int .i64 le) := by rw [← hle.out]; exact kC.cell 4
 have c_wa : y2.cell? ⟨w.heap.size, 5, none⟩ = some (.int .i64 wa) := by rw [← hwa.out]; exact kC.cell 5
 by_cases h1 : mt = id
 rotate_left
 ·
  have b1 : (mt != id) = true := by simp [h1]
  have e1 := Lh h1
  clear h1
  have hE : Hid (deafB c m = true) := by
   show _ = _
   rw [hDf.out]
   have := e1.out; simp [this]
  go_wp2_with fail
  go_ret
  rw [hE.out]
  exact ⟨by first | rfl | (simp; omega), HB⟩
 have b1 : (mt != id) = false := by simp [h1]
 have e1 : Hid ((mt == id) = true) := by show _ = _; simp [h1]
 clear h1
 by_cases h2 : mf = id
 ·
  have b2 : (mf == id) = true := by simp [h2]
  have e2 := Lh b2
  clear h2
  have hE : Hid (deafB c m = true) := by
   show _ = _
   rw [hDf.out]
   rw [e1.out, e2.out]; rfl
  go_wp2_with fail
  go_ret
  rw [hE.out]
  exact ⟨by first | rfl | (simp; omega), HB⟩
 have b2 : (mf == id) = false := by simp [h2]
 have e2 := Lh b2
 clear h2
 obtain ⟨nb, hnb⟩ : ∃ q, nodeB mf = q := ⟨_, rfl⟩
 replace hnb := Lh hnb
 go_wp2_with (first | refine lo_Cj kC ?_ | refine lo_cLj kC ?_ | refine lo_cJj kC ?_ | refine lo_Mj kM ?_ | refine lo_mJj kM ?_)
 have CC := isnode_any mf y2
 rw [hnb.out] at CC
 refine (CC).mono ?_
 rintro e y3 ⟨rfl, hW⟩
 subst hW
 clear CC
 rcases nb with _ | _
 ·
  have hE : Hid (deafB c m = true) := by
   show _ = _
   rw [hDf.out]
   rw [e1.out, e2.out, hnb.out]; rfl
  go_wp2_with fail
  go_ret
  rw [hE.out]
  exact ⟨by first | rfl | (simp; omega), HB⟩
 obtain ⟨wb, hwb⟩ : ∃ q, wiB mm 1 1099511627776 = q := ⟨_, rfl⟩
 replace hwb := Lh hwb
 have c_mm : y2.cell? ⟨gkM, 3, none⟩ = some (.int .i64 mm) := by rw [← hmm.out]; exact kM.cell 3
 go_wp2_with (first | refine lo_Cj kC ?_ | refine lo_cLj kC ?_ | refine lo_cJj kC ?_ | refine lo_Mj kM ?_ | refine lo_mJj kM ?_)
 have CC := within_any mm 1 1099511627776 y2
 rw [hwb.out] at CC
 refine (CC).mono ?_
 rintro e y4 ⟨rfl, hW⟩
 subst hW
 clear CC
 rcases wb with _ | _
 ·
  have hE : Hid (deafB c m = true) := by
   show _ = _
   rw [hDf.out]
   rw [e1.out, e2.out, hnb.out, hwb.out]; rfl
  go_wp2_with fail
  go_ret
  rw [hE.out]
  exact ⟨by first | rfl | (simp; omega), HB⟩
 have c_mk : y2.cell? ⟨gkM, 0, none⟩ = some (.int .i64 mk) := by rw [← hmk.out]; exact kM.cell 0
 have c_id : y2.cell? ⟨w.heap.size, 0, none⟩ = some (.int .i64 id) := by rw [← hid.out]; exact kC.cell 0
 have c_ro : y2.cell? ⟨w.heap.size, 1, none⟩ = some (.int .i64 ro) := by rw [← hro.out]; exact kC.cell 1
 have c_le : y2.cell? ⟨w.heap.size, 4, none⟩ = some (.int .i64 le) := by rw [← hle.out]; exact kC.cell 4
 have c_wa : y2.cell? ⟨w.heap.size, 5, none⟩ = some (.int .i64 wa) := by rw [← hwa.out]; exact kC.cell 5
 by_cases k1 : mk = 1
 ·
  have bk : (mk == 1) = true := by simp [k1]
  have ek := Lh k1
  clear k1
  by_cases h3 : ro = 2
  ·
   have b3 : (ro == 2) = true := by simp [h3]
   have e3 := Lh h3
   clear h3
   have hE : Hid (deafB c m = true) := by
    show _ = _
    rw [hDf.out]
    rw [e1.out, e2.out, hnb.out, hwb.out]; have a := ek.out; have b := e3.out; simp [a, b]
   go_wp2_with fail
   go_ret
   rw [hE.out]
   exact ⟨by first | rfl | (simp; omega), HB⟩
  have b3 : (ro == 2) = false := by simp [h3]
  have e3 := Lh h3
  clear h3
  by_cases h4 : le = 0
  ·
   have b4 : (le != 0) = false := by simp [h4]
   have e4 := Lh h4
   clear h4
   have hE : Hid (deafB c m = false) := by
    show _ = _
    rw [hDf.out]
    rw [e1.out, e2.out, hnb.out, hwb.out]; have a := ek.out; have b := e3.out; have d := e4.out; simp [a, b, d]
   go_wp2_with fail
   go_ret
   rw [hE.out]
   exact ⟨by first | rfl | (simp; omega), HB⟩
  have b4 : (le != 0) = true := by simp [h4]
  have e4 := Lh h4
  clear h4
  by_cases h5 : wa < 10
  ·
   have e5 := Lh h5
   have hE : Hid (deafB c m = true) := by
    show _ = _
    rw [hDf.out]
    rw [e1.out, e2.out, hnb.out, hwb.out]; have a := ek.out; have b := e3.out; have d := e4.out; have f := e5.out; simp [a, b, d, f]
   go_wp2_with fail
   go_ret
   rw [hE.out]
   exact ⟨by first | rfl | (simp; omega), HB⟩
  ·
   have e5 := Lh h5
   have hE : Hid (deafB c m = false) := by
    show _ = _
    rw [hDf.out]
    rw [e1.out, e2.out, hnb.out, hwb.out]; have a := ek.out; have b := e3.out; have d := e4.out; have f := e5.out; simp [a, b, d]; omega
   go_wp2_with fail
   go_ret
   rw [hE.out]
   exact ⟨by first | rfl | (simp; omega), HB⟩
 have bk : (mk == 1) = false := by simp [k1]
 have ek1 := Lh k1
 clear k1
 by_cases k2 : mk = 2
 ·
  have bk2 : (mk == 2) = true := by simp [k2]
  have ek := Lh k2
  clear k2
  have hE : Hid (deafB c m = false) := by
   show _ = _
   rw [hDf.out]
   rw [e1.out, e2.out, hnb.out, hwb.out]; have a := ek.out; simp [a]
  go_wp2_with fail
  go_ret
  rw [hE.out]
  exact ⟨by first | rfl | (simp; omega), HB⟩
 have bk2 : (mk == 2) = false := by simp [k2]
 have ek2 := Lh k2
 clear k2
 by_cases k3 : mk = 3
 ·
  have bk3 : (mk == 3) = true := by simp [k3]
  have ek := Lh k3
  clear k3
  have hE : Hid (deafB c m = false) := by
   show _ = _
   rw [hDf.out]
   rw [e1.out, e2.out, hnb.out, hwb.out]; have a := ek.out; simp [a]
  go_wp2_with fail
  go_ret
  rw [hE.out]
  exact ⟨by first | rfl | (simp; omega), HB⟩
 have bk3 : (mk == 3) = false := by simp [k3]
 have ek3 := Lh k3
 clear k3
 by_cases k4 : mk = 4
 ·
  have bk4 : (mk == 4) = true := by simp [k4]
  have ek := Lh k4
  clear k4
  have hE : Hid (deafB c m = false) := by
   show _ = _
   rw [hDf.out]
   rw [e1.out, e2.out, hnb.out, hwb.out]; have a := ek.out; simp [a]
  go_wp2_with fail
  go_ret
  rw [hE.out]
  exact ⟨by first | rfl | (simp; omega), HB⟩
 have bk4 : (mk == 4) = false := by simp [k4]
 have ek4 := Lh k4
 clear k4
 by_cases k5 : mk = 5
 ·
  have bk5 : (mk == 5) = true := by simp [k5]
  have ek := Lh k5
  clear k5
  have hE : Hid (deafB c m = false) := by
   show _ = _
   rw [hDf.out]
   rw [e1.out, e2.out, hnb.out, hwb.out]; have a := ek.out; simp [a]
  go_wp2_with fail
  go_ret
  rw [hE.out]
  exact ⟨by first | rfl | (simp; omega), HB⟩
 have bk5 : (mk == 5) = false := by simp [k5]
 have ek5 := Lh k5
 clear k5
 by_cases k6 : mk = 6
 ·
  have bk6 : (mk == 6) = true := by simp [k6]
  have ek := Lh k6
  clear k6
  have hE : Hid (deafB c m = false) := by
   show _ = _
   rw [hDf.out]
   rw [e1.out, e2.out, hnb.out, hwb.out]; have a := ek.out; simp [a]
  go_wp2_with fail
  go_ret
  rw [hE.out]
  exact ⟨by first | rfl | (simp; omega), HB⟩
 have bk6 : (mk == 6) = false := by simp [k6]
 have ek6 := Lh k6
 clear k6
 have hE : Hid (deafB c m = true) := by
  show _ = _
  rw [hDf.out]
  rw [e1.out, e2.out, hnb.out, hwb.out]; have a1 := ek1.out; have a2 := ek2.out; have a3 := ek3.out; have a4 := ek4.out; have a5 := ek5.out; have a6 := ek6.out; have h0 : (decide (mk < 1) || decide (6 < mk)) = true := by (rw [← Bool.decide_or, decide_eq_true_eq]; omega)
  rw [← Bool.or_assoc (decide (mk < 1)), h0]; rfl
 go_wp2_with fail
 go_ret
 rw [hE.out]
 exact ⟨by first | rfl | (simp; omega), HB⟩
end Go.Proofs.YtegnfkbmlalkeaaGreat.cor
namespace Go.Proofs.YtegnfkbmlalkeaaGreat.cor
open Go Go.RowKit kit nums cf lg cr se
theorem holders_any (c : CoL) (A : Option Addr) (n p : Nat) (i : Int) (w : World) : Calls Tryz.prog 170 #[crV c (.slice A n p), .int .i64 i] w fun e w' => e = .returned (.int .u16 ((hasC c i : Nat) : Int)) ∧ Below w.heap.size w w' := by
 go_enter Tryz.func170, Tryz.ntmps170
 go_wp2_with (first | go_skip | refine box_C rfl _ rfl c (.slice A n p) rfl ?_ | fail)
 intro y1 kC e1 s1
 clear s1
 have HB := e1
 clear e1
 have BkC := Lh kC
 clear kC
 have BH := Lh HB
 clear HB
 go_wp2_with go_skip
 go_loopw [5, 6] (fun sv nv wr => ∃ k : Nat, k ≤ 9 ∧ sv = .int .u16 (hasTo c i k : Int) ∧ nv = .int .i64 ((k + 1 : Nat) : Int) ∧ Hid (Below y1.heap.size y1 wr)) (fun _ nv _ => 10 - (intOf nv).toNat)
 case atStart => exact ⟨0, by omega, rfl, rfl, Lh (Below.refl _ _)⟩
 case round =>
  obtain ⟨k, hk, rfl, rfl, HY⟩ := hrel
  by_cases hk9 : k < 9
  ·
   have kC := BkC.out.below HY.out BkC.out.lt
   have HB := HY.out
   have ck : ((k + 1 : Nat) : Int) ≤ 9 := by omega
   have c10 : ((k + 1 : Nat) : Int) < 10 := by omega
   have c00 : (0 : Int) ≤ ((k + 1 : Nat) : Int) := by omega
   have wk : IntKind.i64.wrap (((k + 1 : Nat) : Int) + 1) = ((k + 1 + 1 : Nat) : Int) := by rw [wrap_sm (by omega) (by omega)]; omega
   have cR := cr_mt kC (show k + 1 < 10 by omega)
   have hs := ref13.has_lt c i k
   have HS : Hid (hasTo c i (k + 1) = if i ≤ c.mt (k + 1) then withF (hasTo c i k) ((k + 1 : Nat) : Int) else hasTo c i k) := rfl
   obtain ⟨t2, ht2⟩ : ∃ z, hasTo c i (k + 1) = z := ⟨_, rfl⟩
   rw [ht2] at HS
   have HT : Hid (hasTo c i (k + 1) = t2) := ht2
   clear ht2
   generalize hasTo c i k = t1 at *
   obtain ⟨j, hj⟩ : ∃ j : Nat, j = k + 1 := ⟨_, rfl⟩
   rw [← hj] at ck c10 c00 wk cR HS HT ⊢
   replace hj := Lh hj
   obtain ⟨mv, hmv⟩ : ∃ z, c.mt j = z := ⟨_, rfl⟩
   rw [hmv] at cR HS
   clear hmv
   by_cases hle : i ≤ mv
   ·
    have ht : Hid (t2 = withF t1 (j : Int)) := by show _ = _; rw [HS.out, if_pos hle]
    have hge : mv ≥ i := hle
    clear HS
    go_wp2_with (first | go_skip | refine lo_Cj kC ?_ | refine lo_cLj kC ?_ | refine lo_cJj kC ?_)
    refine (seti.with_any t1 (j : Int) wr hs (by omega) (by omega)).mono ?_
    rintro e y51 ⟨rfl, hY⟩
    replace HB := bt HB hY
    replace kC := kC.b hY
    clear hY
    go_wp2_with (first | go_skip | refine lo_Cj kC ?_ | refine lo_cLj kC ?_ | refine lo_cJj kC ?_)
    go_roundw
    case rel => exact ⟨j, by have := hj.out; omega, by rw [HT.out, ht.out], by rfl, Lh HB⟩
    case measure => have := hj.out; simp only [intOf]; omega
   ·
    have ht : Hid (t2 = t1) := by show _ = _; rw [HS.out, if_neg hle]
    have hge : ¬ mv ≥ i := hle
    clear HS
    go_wp2_with (first | go_skip | refine lo_Cj kC ?_ | refine lo_cLj kC ?_ | refine lo_cJj kC ?_)
    go_roundw
    case rel => exact ⟨j, by have := hj.out; omega, by rw [HT.out, ht.out], by rfl, Lh HB⟩
    case measure => have := hj.out; simp only [intOf]; omega
  ·
   have kC := BkC.out.below HY.out BkC.out.lt
   have HB := HY.out
   obtain rfl : k = 9 := by omega
   have ck : ¬ (((9 + 1 : Nat) : Int) ≤ 9) := by omega
   go_wp2_with go_skip
   go_ret
   exact ⟨rfl, BH.out.trans (HB.mono BH.out.size)⟩
theorem least_any (c : CoL) (A : Option Addr) (n p : Nat) (j : JtL) (w : World) (B : Nat) (hR : RdE w B A n c.lg.es) (hB : B ≤ w.heap.size) (hp : n ≤ p) (hf : Fit c.lg) (hj : j.ok) : Calls Tryz.prog 142 #[crV c (.slice A n p), jV j] w fun e w' => e = .returned (.int .i64 (lmTo c j 9)) ∧ Below w.heap.size w w' := by
 have HJ := Lh hj
 have HF := Lh hf
 have hlen := Lh hR.len
 clear hj hf
 have R0 := hR.more hB
 clear hR hB
 go_enter Tryz.func142, Tryz.ntmps142
 go_wp2_with (first | go_skip | refine box_C rfl _ rfl c (.slice A n p) rfl ?_ | fail)
 intro y1 kC e1 s1
 clear s1
 have HB := e1
 replace R0 := R0.on e1 e1.size
 clear e1
 go_wp2_with (first | go_skip | refine box_J rfl _ rfl j rfl ?_ | (first | refine lo_Cj kC ?_ | refine lo_cLj kC ?_ | refine lo_cJj kC ?_))
 intro y2 kJ e2 s2
 clear s2
 replace HB := bt HB e2
 replace kC := kC.b e2
 replace R0 := R0.on e2 e2.size
 clear e2
 generalize y1.heap.size = gkJ at *
 go_wp2_with (first | go_skip | refine lo_Cj kC ?_ | refine lo_cLj kC ?_ | refine lo_cJj kC ?_ | refine lo_Jj kJ ?_)
 refine (enti.last_any c.lg A n p y2 hlen.out HF.out).mono ?_
 rintro e y3 ⟨rfl, hY⟩
 replace HB := bt HB hY
 replace kC := kC.b hY
 replace kJ := kJ.b hY
 replace R0 := R0.on hY hY.size
 clear hY
 have BkC := Lh kC
 clear kC
 have BkJ := Lh kJ
 clear kJ
 have BR0 := Lh R0
 clear R0
 have BH := Lh HB
 clear HB
 go_wp2_with go_skip
 go_loopw [5, 6] (fun sv nv wr => ∃ k : Nat, k ≤ 9 ∧ sv = .int .i64 (lmTo c j k) ∧ nv = .int .i64 ((k + 1 : Nat) : Int) ∧ Hid (Below y3.heap.size y3 wr)) (fun _ nv _ => 10 - (intOf nv).toNat)
 case atStart => exact ⟨0, by omega, rfl, rfl, Lh (Below.refl _ _)⟩
 case round =>
  obtain ⟨k, hk, rfl, rfl, HY⟩ := hrel
  by_cases hk9 : k < 9
  ·
   have kC := BkC.out.below HY.out BkC.out.lt
   have kJ := BkJ.out.below HY.out BkJ.out.lt
   have R0 := BR0.out.on HY.out HY.out.size
   have HB := HY.out
   have ck : ((k + 1 : Nat) : Int) ≤ 9 := by omega
   have c10 : ((k + 1 : Nat) : Int) < 10 := by omega
   have c00 : (0 : Int) ≤ ((k + 1 : Nat) : Int) := by omega
   have wk : IntKind.i64.wrap (((k + 1 : Nat) : Int) + 1) = ((k + 1 + 1 : Nat) : Int) := by rw [wrap_sm (by omega) (by omega)]; omega
   have cR := cr_mt kC (show k + 1 < 10 by omega)
   have HS : Hid (lmTo c j (k + 1) = if ledF j ((k + 1 : Nat) : Int) = true then min (lmTo c j k) (c.mt (k + 1)) else lmTo c j k) := rfl
   obtain ⟨t2, ht2⟩ : ∃ z, lmTo c j (k + 1) = z := ⟨_, rfl⟩
   rw [ht2] at HS
   have HT : Hid (lmTo c j (k + 1) = t2) := ht2
   clear ht2
   generalize lmTo c j k = t1 at *
   obtain ⟨q, hq⟩ : ∃ q : Nat, q = k + 1 := ⟨_, rfl⟩
   rw [← hq] at ck c10 c00 wk cR HS HT ⊢
   replace hq := Lh hq
   obtain ⟨mv, hmv⟩ : ∃ z, c.mt q = z := ⟨_, rfl⟩
   rw [hmv] at HS
   clear cR
   replace hmv := Lh hmv
   go_wp2_with (first | go_skip | refine lo_Cj kC ?_ | refine lo_cLj kC ?_ | refine lo_cJj kC ?_ | refine lo_Jj kJ ?_)
   have CC := confi.leads_any j (q : Int) wr HJ.out (by omega) (by omega)
   obtain ⟨lb, hlb⟩ : ∃ z, ledF j (q : Int) = z := ⟨_, rfl⟩
   rw [hlb] at CC HS
   clear hlb
   refine (CC).mono ?_
   rintro e y51 ⟨rfl, hY⟩
   replace HB := bt HB hY
   replace kC := kC.b hY
   replace kJ := kJ.b hY
   replace R0 := R0.on hY hY.size
   clear hY
   clear CC
   skip
   rcases lb with _ | _
   ·
    have ht : Hid (t2 = t1) := by show _ = _; rw [HS.out, if_neg (by decide)]
    clear HS
    go_wp2_with go_skip
    go_roundw
    case rel => exact ⟨q, by have := hq.out; omega, by rw [HT.out, ht.out], by rfl, Lh HB⟩
    case measure => have := hq.out; simp only [intOf]; omega
   ·
    obtain ⟨mn, hmn⟩ : ∃ z, min t1 mv = z := ⟨_, rfl⟩
    have ht : Hid (t2 = mn) := by show _ = _; rw [HS.out, if_pos rfl, hmn]
    clear HS
    replace hmn := Lh hmn
    have hq9 : q < 10 := by have := hq.out; omega
    have cR : y51.cell? ⟨w.heap.size, 35 + q, none⟩ = some (.int .i64 mv) := by rw [← hmv.out]; exact cr_mt kC hq9
    go_wp2_with go_skip
    go_roundw
    case rel => exact ⟨q, by have := hq.out; omega, by rw [HT.out, ht.out]; exact congrArg (Value.int .i64) (by have := hmn.out; first | (split <;> omega) | omega), by rfl, Lh HB⟩
    case measure => have := hq.out; simp only [intOf]; omega
  ·
   have kC := BkC.out.below HY.out BkC.out.lt
   have kJ := BkJ.out.below HY.out BkJ.out.lt
   have R0 := BR0.out.on HY.out HY.out.size
   have HB := HY.out
   obtain rfl : k = 9 := by omega
   have ck : ¬ (((9 + 1 : Nat) : Int) ≤ 9) := by omega
   go_wp2_with go_skip
   go_ret
   exact ⟨rfl, BH.out.trans (HB.mono BH.out.size)⟩
end Go.Proofs.YtegnfkbmlalkeaaGreat.cor
namespace Go.Proofs.YtegnfkbmlalkeaaGreat.enti
open Go Go.RowKit kit nums cf lg
theorem slice_any (L : LgL) (A : Option Addr) (n c : Nat) (a q : Int) (w : World) (B : Nat) (hR : RdE w B A n L.es) (hB : B ≤ w.heap.size) (hc : n ≤ c) (hf : Fit L) (ha : In64 a) (hq : In64 q) : Calls Tryz.prog 166 #[lgV L (.slice A n c), .int .i64 a, .int .i64 q] w fun e w' => ∃ A' n' c', e = .returned (.slice A' n' c') ∧ n' = (sliceF L a q).length ∧ OwnE w' w.heap.size (.slice A' n' c') (sliceF L a q) ∧ Below w.heap.size w w' := by
 have HR := Lh hR
 have hl := hR.1
 have HF := Lh hf
 have hBs := Lh hB
 have hlast : lastF L = L.b + n := by unfold lastF; rw [hl]
 obtain ⟨f0, f1, f2⟩ := hf
 rw [hl] at f2
 have hle := Lh hl
 have HSl : Hid (∀ (k m : Nat), (max a (L.b + 1) - L.b - 1).toNat = k → q.toNat = m → sliceF L a q = (L.es.drop k).take m) := fun k m h1 h2 => by unfold sliceF; rw [h1, h2]
 generalize sliceF L a q = RES at *
 clear hR hB hl
 unfold lgV at *
 obtain ⟨b, t, j, es⟩ := L
 dsimp only at *
 have k0 : Blk 30 (w.alloc (.cells #[.int .i64 b, .int .i64 t, j0 j, j1 j, j2 j, j3 j, j4 j, j5 j, j6 j, j7 j, j8 j, j9 j, j10 j, .slice A n c] 30)) w.heap.size [.int .i64 b, .int .i64 t, j0 j, j1 j, j2 j, j3 j, j4 j, j5 j, j6 j, j7 j, j8 j, j9 j, j10 j, .slice A n c] := (heap_alloc_new w (.cells #[.int .i64 b, .int .i64 t, j0 j, j1 j, j2 j, j3 j, j4 j, j5 j, j6 j, j7 j, j8 j, j9 j, j10 j, .slice A n c] 30))
 have hB : Below w.heap.size w (w.alloc (.cells #[.int .i64 b, .int .i64 t, j0 j, j1 j, j2 j, j3 j, j4 j, j5 j, j6 j, j7 j, j8 j, j9 j, j10 j, .slice A n c] 30)) := ((Below.refl w.heap.size w).alloc (by first | exact Nat.le_refl _ | (simp; done) | (simp; omega)) (.cells #[.int .i64 b, .int .i64 t, j0 j, j1 j, j2 j, j3 j, j4 j, j5 j, j6 j, j7 j, j8 j, j9 j, j10 j, .slice A n c] 30))
 have HB := Lh hB
 have HS : Hid (∀ wq, Below (w.alloc (.cells #[.int .i64 b, .int .i64 t, j0 j, j1 j, j2 j, j3 j, j4 j, j5 j, j6 j, j7 j, j8 j, j9 j, j10 j, .slice A n c] 30)).heap.size (w.alloc (.cells #[.int .i64 b, .int .i64 t, j0 j, j1 j, j2 j, j3 j, j4 j, j5 j, j6 j, j7 j, j8 j, j9 j, j10 j, .slice A n c] 30)) wq → (wq.cell? ⟨w.heap.size, 0, none⟩ = some (.int .i64 b) ∧ wq.cell? ⟨w.heap.size, 1, none⟩ = some (.int .i64 t) ∧ wq.cell? ⟨w.heap.size, 2, none⟩ = some (j0 j) ∧ wq.cell? ⟨w.heap.size, 3, none⟩ = some (j1 j) ∧ wq.cell? ⟨w.heap.size, 4, none⟩ = some (j2 j) ∧ wq.cell? ⟨w.heap.size, 5, none⟩ = some (j3 j) ∧ wq.cell? ⟨w.heap.size, 6, none⟩ = some (j4 j) ∧ wq.cell? ⟨w.heap.size, 7, none⟩ = some (j5 j) ∧ wq.cell? ⟨w.heap.size, 8, none⟩ = some (j6 j) ∧ wq.cell? ⟨w.heap.size, 9, none⟩ = some (j7 j) ∧ wq.cell? ⟨w.heap.size, 10, none⟩ = some (j8 j) ∧ wq.cell? ⟨w.heap.size, 11, none⟩ = some (j9 j) ∧ wq.cell? ⟨w.heap.size, 12, none⟩ = some (j10 j) ∧ wq.cell? ⟨w.heap.size, 13, none⟩ = some (.slice A n c))) := fun wq hq => blk14 (k0.below hq k0.lt)
 have q0 := Below.refl (w.alloc (.cells #[.int .i64 b, .int .i64 t, j0 j, j1 j, j2 j, j3 j, j4 j, j5 j, j6 j, j7 j, j8 j, j9 j, j10 j, .slice A n c] 30)).heap.size (w.alloc (.cells #[.int .i64 b, .int .i64 t, j0 j, j1 j, j2 j, j3 j, j4 j, j5 j, j6 j, j7 j, j8 j, j9 j, j10 j, .slice A n c] 30))
 have K0 := Lh k0
 clear hB k0
 by_cases c1 : b + (n : Int) < a
 ·
  have hE : Hid (RES = []) := by show _ = _; rw [HSl.out (max a (b + 1) - b - 1).toNat q.toNat rfl rfl, List.drop_of_length_le (by have := hle.out; omega), List.take_nil]
  clear HSl
  go_enter Tryz.func166, Tryz.ntmps166
  go_upto_region 1 with (fail)
  generalize (w.alloc (.cells #[.int .i64 b, .int .i64 t, j0 j, j1 j, j2 j, j3 j, j4 j, j5 j, j6 j, j7 j, j8 j, j9 j, j10 j, .slice A n c] 30)) = w1 at *
  have HR1 := Lh (HR.out.on (HB.out.mono hBs.out) (Nat.le_trans hBs.out HB.out.size))
  have CL := Lh (fun w' (hb : Below w1.heap.size w1 w') => last_any ⟨b, t, j, es⟩ A n c w' HR1.out.1 HF.out)
  unfold lgV at CL
  dsimp only at CL
  rw [hlast] at CL
  clear hlast
  have r0 := HS.out _ q0
  go_wp2_with fail
  refine (CL.out _ q0).mono ?_
  rintro e y1 ⟨rfl, hY1⟩
  have q1 := q0.trans (hY1.mono q0.size)
  clear r0
  have r1 := HS.out _ q1
  go_wp2_with fail
  go_ret
  exact ⟨none, 0, 0, rfl, by rw [hE.out]; rfl, by rw [hE.out]; exact OwnE.nil _ _, HB.out.trans (q1.mono HB.out.size)⟩
 ·
  by_cases c2 : q < 0
  ·
   have hE : Hid (RES = []) := by show _ = _; rw [HSl.out (max a (b + 1) - b - 1).toNat 0 rfl (by omega), List.take_zero]
   clear HSl
   go_enter Tryz.func166, Tryz.ntmps166
   go_upto_region 1 with (fail)
   generalize (w.alloc (.cells #[.int .i64 b, .int .i64 t, j0 j, j1 j, j2 j, j3 j, j4 j, j5 j, j6 j, j7 j, j8 j, j9 j, j10 j, .slice A n c] 30)) = w1 at *
   have HR1 := Lh (HR.out.on (HB.out.mono hBs.out) (Nat.le_trans hBs.out HB.out.size))
   have CL := Lh (fun w' (hb : Below w1.heap.size w1 w') => last_any ⟨b, t, j, es⟩ A n c w' HR1.out.1 HF.out)
   unfold lgV at CL
   dsimp only at CL
   rw [hlast] at CL
   clear hlast
   have r0 := HS.out _ q0
   go_wp2_with fail
   refine (CL.out _ q0).mono ?_
   rintro e y1 ⟨rfl, hY1⟩
   have q1 := q0.trans (hY1.mono q0.size)
   clear r0
   have r1 := HS.out _ q1
   go_wp2_with fail
   go_ret
   exact ⟨none, 0, 0, rfl, by rw [hE.out]; rfl, by rw [hE.out]; exact OwnE.nil _ _, HB.out.trans (q1.mono HB.out.size)⟩
  ·
   by_cases c3 : b < a
   ·
    obtain ⟨k, hk, hkn⟩ : ∃ k : Nat, a = b + 1 + k ∧ k ≤ n := ⟨(a - b - 1).toNat, by omega, by omega⟩
    have hE : Hid (RES = (es.drop k).take (min q ((n - k : Nat) : Int)).toNat) := by
     show _ = _
     rw [HSl.out k q.toNat (by omega) rfl]
     by_cases h : q ≤ ((n - k : Nat) : Int)
     · rw [show min q ((n - k : Nat) : Int) = q by omega]
     · rw [List.take_of_length_le (by rw [List.length_drop, hle.out]; omega), List.take_of_length_le (by rw [List.length_drop, hle.out]; omega)]
    clear HSl
    go_enter Tryz.func166, Tryz.ntmps166
    go_upto_region 1 with (fail)
    generalize (w.alloc (.cells #[.int .i64 b, .int .i64 t, j0 j, j1 j, j2 j, j3 j, j4 j, j5 j, j6 j, j7 j, j8 j, j9 j, j10 j, .slice A n c] 30)) = w1 at *
    have HR1 := Lh (HR.out.on (HB.out.mono hBs.out) (Nat.le_trans hBs.out HB.out.size))
    have CL := Lh (fun w' (hb : Below w1.heap.size w1 w') => last_any ⟨b, t, j, es⟩ A n c w' HR1.out.1 HF.out)
    unfold lgV at CL
    dsimp only at CL
    rw [hlast] at CL
    clear hlast
    have r0 := HS.out _ q0
    have CB := Lh (fun w' (hb : Below w1.heap.size w1 w') (i : Int) (hi : i = b + (k : Nat)) => behind_any ⟨b, t, j, es⟩ A n c k i w' w1.heap.size (HR1.out.below hb) hb.size hc HF.out hi hkn)
    unfold lgV at CB
    dsimp only at CB
    go_wp2_with fail
    refine (CL.out _ q0).mono ?_
    rintro e y1 ⟨rfl, hY1⟩
    have q1 := q0.trans (hY1.mono q0.size)
    clear r0
    have r1 := HS.out _ q1
    go_wp2_with fail
    refine (CB.out _ q1 _ (by omega)).mono ?_
    rintro e y2 ⟨A2, c2, rfl, hR2, hc2, hc3, hY2⟩
    have q2 := q1.trans (hY2.mono q1.size)
    clear r1
    have r2 := HS.out _ q2
    have HR2 := Lh (hR2.on (Below.refl _ _) q2.size)
    clear hR2
    go_wp2_with fail
    have hm : (min q (((n - k : Nat) : Int) : Int)).toNat ≤ (n - k) := by omega
    generalize (min q (((n - k : Nat) : Int) : Int)).toNat = m at *
    have kl : Blk 28 (y2.alloc (.cells #[.slice A2 m c2] 28)) y2.heap.size [.slice A2 m c2] := heap_alloc_new y2 _
    have q3 := q2.alloc q2.size (.cells #[.slice A2 m c2] 28)
    have RX := (HR2.out.take hm).on ((Below.refl y2.heap.size y2).alloc (Nat.le_refl _) (.cells #[.slice A2 m c2] 28)) (show y2.heap.size ≤ (y2.alloc (.cells #[.slice A2 m c2] 28)).heap.size by simp)
    clear r2
    generalize (y2.alloc (.cells #[.slice A2 m c2] 28)) = w2 at *
    have hf2 : flatP [⟨A2, m, c2, (es.drop k).take m⟩] = (es.drop k).take m := by simp [flatP]
    have CC := concat_any [⟨A2, m, c2, (es.drop k).take m⟩] (some ⟨y2.heap.size, 0, none⟩) 1 1 w2 w2.heap.size (rdv1 kl) (fun p hp => by rw [List.mem_singleton] at hp; subst hp; exact RX) (Nat.le_refl _) (by rw [hf2, RX.1]; omega) (by omega)
    rw [hf2, RX.1] at CC
    clear hf2
    refine CC.mono ?_
    rintro e y4 ⟨A4, c4, rfl, hO, hY4⟩
    have q4 := Lh (q3.trans (hY4.mono q3.size))
    have hm2 := Lh RX.1
    have hO := Lh (hO.more (Nat.le_trans HB.out.size q3.size))
    clear CC kl RX hY4
    go_wp2_with fail
    go_ret
    exact ⟨A4, m, c4, rfl, by rw [hE.out]; exact hm2.out.symm, by rw [hE.out]; exact hO.out, HB.out.trans (q4.out.mono HB.out.size)⟩
   ·
    have hE : Hid (RES = es.take (min q (n : Int)).toNat) := by
     show _ = _
     rw [HSl.out 0 q.toNat (by omega) rfl, List.drop_zero]
     by_cases h : q ≤ (n : Int)
     · rw [show min q (n : Int) = q by omega]
     · rw [List.take_of_length_le (by rw [hle.out]; omega), List.take_of_length_le (by rw [hle.out]; omega)]
    clear HSl
    go_enter Tryz.func166, Tryz.ntmps166
    go_upto_region 1 with (fail)
    generalize (w.alloc (.cells #[.int .i64 b, .int .i64 t, j0 j, j1 j, j2 j, j3 j, j4 j, j5 j, j6 j, j7 j, j8 j, j9 j, j10 j, .slice A n c] 30)) = w1 at *
    have HR1 := Lh (HR.out.on (HB.out.mono hBs.out) (Nat.le_trans hBs.out HB.out.size))
    have CL := Lh (fun w' (hb : Below w1.heap.size w1 w') => last_any ⟨b, t, j, es⟩ A n c w' HR1.out.1 HF.out)
    unfold lgV at CL
    dsimp only at CL
    rw [hlast] at CL
    clear hlast
    have r0 := HS.out _ q0
    go_wp2_with fail
    refine (CL.out _ q0).mono ?_
    rintro e y1 ⟨rfl, hY1⟩
    have q1 := q0.trans (hY1.mono q0.size)
    clear r0
    have r1 := HS.out _ q1
    go_wp2_with fail
    have HR2 := Lh (HR1.out.on q1 q1.size)
    have hm : (min q (n : Int)).toNat ≤ n := by omega
    generalize (min q (n : Int)).toNat = m at *
    have kl : Blk 28 (y1.alloc (.cells #[.slice A m c] 28)) y1.heap.size [.slice A m c] := heap_alloc_new y1 _
    have q3 := q1.alloc q1.size (.cells #[.slice A m c] 28)
    have RX := (HR2.out.take hm).on ((Below.refl y1.heap.size y1).alloc (Nat.le_refl _) (.cells #[.slice A m c] 28)) (show y1.heap.size ≤ (y1.alloc (.cells #[.slice A m c] 28)).heap.size by simp)
    clear r1
    generalize (y1.alloc (.cells #[.slice A m c] 28)) = w2 at *
    have hf2 : flatP [⟨A, m, c, es.take m⟩] = es.take m := by simp [flatP]
    have CC := concat_any [⟨A, m, c, es.take m⟩] (some ⟨y1.heap.size, 0, none⟩) 1 1 w2 w2.heap.size (rdv1 kl) (fun p hp => by rw [List.mem_singleton] at hp; subst hp; exact RX) (Nat.le_refl _) (by rw [hf2, RX.1]; omega) (by omega)
    rw [hf2, RX.1] at CC
    clear hf2
    refine CC.mono ?_
    rintro e y4 ⟨A4, c4, rfl, hO, hY4⟩
    have q4 := Lh (q3.trans (hY4.mono q3.size))
    have hm2 := Lh RX.1
    have hO := Lh (hO.more (Nat.le_trans HB.out.size q3.size))
    clear CC kl RX hY4
    go_wp2_with fail
    go_ret
    exact ⟨A4, m, c4, rfl, by rw [hE.out]; exact hm2.out.symm, by rw [hE.out]; exact hO.out, HB.out.trans (q4.out.mono HB.out.size)⟩
end Go.Proofs.YtegnfkbmlalkeaaGreat.enti
namespace Go.Proofs.YtegnfkbmlalkeaaGreat.cor
open Go Go.RowKit kit nums cf lg cr se
theorem cno_hit {b : Int} {es : List EnL} {k : Nat} {x : EnL} (hx : es[k]? = some x) (h : x.k = 2) : cnoL b es (k + 1) = b + 1 + (k : Int) := by
 show (if (es[k]?).map (·.k) = some 2 then b + 1 + (k : Int) else cnoL b es k) = _
 rw [hx]; exact if_pos (by rw [Option.map_some, h])
theorem cno_miss {b : Int} {es : List EnL} {k : Nat} {x : EnL} (hx : es[k]? = some x) (h : ¬ x.k = 2) : cnoL b es (k + 1) = cnoL b es k := by
 show (if (es[k]?).map (·.k) = some 2 then b + 1 + (k : Int) else cnoL b es k) = _
 rw [hx]; exact if_neg (by rw [Option.map_some]; intro e; exact h (Option.some.inj e))
theorem confAt_any (L : LgL) (A : Option Addr) (n p : Nat) (w : World) (B : Nat) (hR : RdE w B A n L.es) (hB : B ≤ w.heap.size) (hf : Fit L) : Calls Tryz.prog 143 #[lgV L (.slice A n p)] w fun e w' => e = .returned (.int .i64 (cnoF L)) ∧ Below w.heap.size w w' := by
 have R0 := hR.more hB
 have HF := Lh hf
 have hlen := Lh hR.len
 have hn2 : n ≤ 1000000 := by rw [← hlen.out]; exact hf.2.2
 replace hn2 := Lh hn2
 clear hR hB hf
 obtain ⟨b, hb0⟩ : ∃ q, L.b = q := ⟨_, rfl⟩
 have hb1 : 0 ≤ b ∧ b ≤ 2199023255552 := by rw [← hb0]; exact ⟨HF.out.1, HF.out.2.1⟩
 replace hb0 := Lh hb0
 replace hb1 := Lh hb1
 go_enter Tryz.func143, Tryz.ntmps143
 go_wp2_with (first | refine box_L rfl _ rfl L (.slice A n p) rfl ?_ | fail)
 intro y1 kL e1 s1
 clear s1
 have HB := e1
 replace R0 := R0.on e1 e1.size
 clear e1
 have w1 : IntKind.i64.wrap ((n : Int) - 1) = (n : Int) - 1 := by have := hn2.out; rw [wrap_sm (by omega) (by omega)]
 have c13 : _ = some (Value.slice A n p) := kL.cell 13
 have BkL := Lh kL
 clear kL
 have BR0 := Lh R0
 clear R0
 have BH := Lh HB
 clear HB
 go_wp2_with fail
 go_loopw [3] (fun iv wr => ∃ i : Int, -1 ≤ i ∧ i < n ∧ iv = .int .i64 i ∧ Hid (Below y1.heap.size y1 wr) ∧ Hid (cnoF L = cnoL L.b L.es (i + 1).toNat)) (fun iv _ => (intOf iv + 1).toNat)
 case atStart => exact ⟨(n : Int) - 1, by omega, by omega, rfl, Lh (Below.refl _ _), Lh (by unfold cnoF; rw [show ((n : Int) - 1 + 1).toNat = L.es.length by rw [hlen.out]; omega])⟩
 case round =>
  obtain ⟨i, hi1, hin, rfl, HY, HC⟩ := hrel
  clear c13 w1
  by_cases hi0 : 0 ≤ i
  ·
   have kL := BkL.out.below HY.out BkL.out.lt
   have R0 := BR0.out.on HY.out HY.out.size
   have HB := HY.out
   obtain ⟨k, rfl⟩ : ∃ k : Nat, i = (k : Int) := ⟨i.toNat, by omega⟩
   have hkn : k < n := by omega
   obtain ⟨bb, oo, x, hA9, hlt9, hx, hA⟩ := R0.at_ hkn
   subst hA9
   have c13 : wr.cell? ⟨w.heap.size, 13, none⟩ = some (.slice (some ⟨bb, oo, none⟩) n p) := kL.cell 13
   have cge : (k : Int) ≥ 0 := hi0
   have ck : (k : Int) < (n : Int) := hin
   obtain ⟨xk, hxk⟩ : ∃ q, x.k = q := ⟨_, rfl⟩
   have ck1 : wr.cell? ⟨bb, oo + k * 14 + 1, none⟩ = some (.int .i64 xk) := by rw [← hxk]; exact hA 1 _ rfl
   have HC2 : cnoF L = cnoL L.b L.es (k + 1) := HC.out
   replace HC2 := Lh HC2
   replace hx := Lh hx
   replace hxk := Lh hxk
   clear HC hA
   by_cases hk2 : xk = 2
   ·
    have hb2 : (xk == 2) = true := by simp [hk2]
    have hE := Lh (cno_hit (b := L.b) hx.out (hxk.out.trans hk2))
    replace hk2 := Lh hk2
    have cb : wr.cell? ⟨w.heap.size, 0, none⟩ = some (.int .i64 b) := by rw [← hb0.out]; exact kL.cell 0
    have w2 : IntKind.i64.wrap (b + 1) = b + 1 := by have := hb1.out; rw [wrap_sm (by omega) (by omega)]
    have w3 : IntKind.i64.wrap (b + 1 + (k : Int)) = b + 1 + (k : Int) := by have := hb1.out; have := hn2.out; rw [wrap_sm (by omega) (by omega)]
    go_wp2_with fail
    go_ret
    rw [HC2.out, hE.out, hb0.out]
    exact ⟨rfl, BH.out.trans (HB.mono BH.out.size)⟩
   ·
    have hb2 : (xk == 2) = false := by simp [hk2]
    have hE := Lh (cno_miss (b := L.b) hx.out (fun e => hk2 (hxk.out.symm.trans e)))
    replace hk2 := Lh hk2
    have wk : IntKind.i64.wrap ((k : Int) - 1) = (k : Int) - 1 := by have := hn2.out; rw [wrap_sm (by omega) (by omega)]
    go_wp2_with fail
    go_roundw
    case rel => exact ⟨(k : Int) - 1, by omega, by omega, rfl, Lh HB, Lh (by rw [HC2.out, hE.out, show ((k : Int) - 1 + 1).toNat = k by omega])⟩
    case measure => simp only [intOf]; omega
  ·
   have kL := BkL.out.below HY.out BkL.out.lt
   have R0 := BR0.out.on HY.out HY.out.size
   have HB := HY.out
   obtain rfl : i = -1 := by omega
   have cge : ¬ ((-1 : Int) ≥ 0) := by omega
   have HC2 : cnoF L = L.b := HC.out
   replace HC2 := Lh HC2
   clear HC
   have cb : wr.cell? ⟨w.heap.size, 0, none⟩ = some (.int .i64 b) := by rw [← hb0.out]; exact kL.cell 0
   go_wp2_with fail
   go_ret
   rw [HC2.out, hb0.out]
   exact ⟨rfl, BH.out.trans (HB.mono BH.out.size)⟩
end Go.Proofs.YtegnfkbmlalkeaaGreat.cor
namespace Go.Proofs.YtegnfkbmlalkeaaGreat.enti
open Go Go.RowKit kit nums cf lg
theorem _root_.Go.Proofs.YtegnfkbmlalkeaaGreat.kit.RdE.drop {w : World} {B n b o : Nat} {es : List EnL} (h : RdE w B (some ⟨b, o, none⟩) n es) {p : Nat} (hp : p < n) : RdE w B (some ⟨b, o + p * 14, none⟩) (n - p) (es.drop p) := by
 refine ⟨by rw [List.length_drop, h.1], fun _ => ?_⟩
 obtain ⟨b', o', e, hlt, hc⟩ := h.2 (by omega)
 simp only [Option.some.injEq, Addr.mk.injEq, and_true] at e
 obtain ⟨rfl, rfl⟩ := e
 refine ⟨b, _, rfl, hlt, fun j x hx => ?_⟩
 rw [List.getElem?_drop] at hx
 have := hc _ _ hx
 rwa [show o + (p + j) * 14 = o + p * 14 + j * 14 by rw [Nat.add_mul]; omega] at this
end Go.Proofs.YtegnfkbmlalkeaaGreat.enti
namespace Go.Proofs.YtegnfkbmlalkeaaGreat.cor
open Go Go.RowKit kit nums cf lg cr se
theorem bd_lj {w : World} {ops : Array Oper} {rest : List Oper} {o : Oper} {a : Act} {Q : Exit → Act → World → Prop} {q2 : Operand} (j : JtL) (ho : o.op = .build 30 #[(2, q2)]) (hw : Region.wanted o (yielded ops a.tmps) = true) (h2 : a.eval q2 = jV j)
  (h : wpList Tryz.prog ops Q rest (a.put o.dst (lgV { zL with j := j } (.slice none 0 0))) w) : wpList Tryz.prog ops Q (o :: rest) a w := by
 refine wpList_val hw ?_ h
 have hr : (Instr.build 30 #[(2, jV j)]).run Tryz.prog w = .ok (lgV { zL with j := j } (.slice none 0 0)) w := by kernel_rfl
 unfold execOp
 simp [ho, h2, hr]
theorem bd_new {w : World} {ops : Array Oper} {rest : List Oper} {o : Oper} {a : Act} {Q : Exit → Act → World → Prop} {q0 q8 : Operand} (id : Int) (j : JtL) (ho : o.op = .build 33 #[(0, q0), (8, q8)]) (hw : Region.wanted o (yielded ops a.tmps) = true) (h0 : a.eval q0 = .int .i64 id) (h8 : a.eval q8 = lgV { zL with j := j } (.slice none 0 0))
  (h : wpList Tryz.prog ops Q rest (a.put o.dst (crV (newC id j) (.slice none 0 0))) w) : wpList Tryz.prog ops Q (o :: rest) a w := by
 refine wpList_val hw ?_ h
 have hr : (Instr.build 33 #[(0, .int .i64 id), (8, lgV { zL with j := j } (.slice none 0 0))]).run Tryz.prog w = .ok (crV (newC id j) (.slice none 0 0)) w := by kernel_rfl
 unfold execOp
 simp [ho, h0, h8, hr]
theorem new_any (id : Int) (j : JtL) (w : World) : Calls Tryz.prog 38 #[.int .i64 id, jV j] w fun e w' => e = .returned (crV (newC id j) (.slice none 0 0)) ∧ Below w.heap.size w w' := by
 go_enter Tryz.func38, Tryz.ntmps38
 go_wp2_with (first | go_skip | refine box_J rfl _ rfl j rfl ?_ | fail)
 intro y1 kJ e1 s1
 clear s1
 have HB := e1
 clear e1
 have LTkJkO := Lh kJ.lt
 have LEkO : Hid (w.heap.size ≤ y1.heap.size) := HB.size
 go_wp2_with (first | go_skip | refine al_C rfl rfl ?_ | (first | refine lo_Jj kJ ?_))
 intro y2 kO e2 s2
 clear s2
 replace kO : Blk _ _ _ (crC zC (.slice none 0 0)) := kO
 replace HB := bt HB e2
 replace kJ := kJ.b e2
 clear e2
 generalize y1.heap.size = gkO at *
 go_wp2_with (first | go_skip | refine st_C rfl _ _ rfl (newC id j) none 0 0 rfl rfl _ kO rfl ?_ | (first | refine lo_Jj kJ ?_ | refine lo_Cj kO ?_ | refine lo_cLj kO ?_ | refine lo_cJj kO ?_ | refine bd_lj j rfl rfl rfl ?_ | refine bd_new id j rfl rfl rfl rfl ?_))
 intro y3 kO2 pO
 replace kJ := kJ.put pO (Nat.ne_of_lt LTkJkO.out)
 replace HB := pO.below _ _ HB LEkO.out
 clear kO
 have kO := kO2
 clear kO2 pO
 go_wp2_with (first | go_skip | refine lo_Jj kJ ?_ | refine lo_Cj kO ?_ | refine lo_cLj kO ?_ | refine lo_cJj kO ?_)
 (try simp only [Exit.inBlock, Exit.then])
 refine bodyPost_ret (res1 Tryz.results38 rfl (aggC _) (sizeC _) (ldCv kO)) rfl ?_
 exact ⟨rfl, HB⟩
end Go.Proofs.YtegnfkbmlalkeaaGreat.cor
