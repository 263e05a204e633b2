/- The landed core: Restart, Compact. Conditions: those that the theorems name. -/
import Derived.Deep.RegionHeld3
import Derived.Deep.Cut
import Derived.Lib.Hide
import Derived.Deep.CutBlock
import Derived.BigQuiet
import Derived.Test.YtegnfkbmlalkeaaGreatStKitCl
import Derived.Test.YtegnfkbmlalkeaaGreatStJ4
import Derived.Test.YtegnfkbmlalkeaaGreatStKitLg
import Derived.Test.YtegnfkbmlalkeaaGreatStJ0
import Derived.Test.YtegnfkbmlalkeaaGreatStJ2
import Derived.Test.YtegnfkbmlalkeaaGreatStEntD
import Derived.Test.YtegnfkbmlalkeaaGreatStEntJ
import Derived.Test.YtegnfkbmlalkeaaGreatStConfJ
import Derived.Test.YtegnfkbmlalkeaaGreatStJ3
import Derived.Test.YtegnfkbmlalkeaaGreatStRefE12
import Derived.Test.YtegnfkbmlalkeaaGreatStJ1
import Derived.Test.YtegnfkbmlalkeaaGreatStCorM13
set_option linter.unusedVariables false
set_option maxHeartbeats 16000000
set_option maxRecDepth 10000
namespace Go.Proofs.YtegnfkbmlalkeaaGreat.cor
open Go Go.RowKit kit nums cf lg cr se
theorem deaf_not {c : CoL} {m : MsL} (h : deafB c m = false) : (1 ≤ m.f ∧ m.f ≤ 9) ∧ (1 ≤ m.m ∧ m.m ≤ 1099511627776) ∧ (m.k = 1 ∨ m.k = 2 ∨ m.k = 3 ∨ m.k = 4 ∨ m.k = 5 ∨ m.k = 6) := by
 rw [deaf_form] at h
 simp only [Bool.or_eq_false_iff, Bool.not_eq_false', wiB, nodeB, Bool.and_eq_true, decide_eq_true_eq, decide_eq_false_iff_not] at h
 obtain ⟨_, _, h1, h2, h3, h4, _⟩ := h
 exact ⟨h1, h2, by omega⟩
theorem bou_in (v : Int) : 0 ≤ bouF v ∧ bouF v ≤ 1099511627776 := by unfold bouF; omega
def goF (d : CoL) (m : MsL) : CoL × List MsL := if m.k = 1 then askF d m else if m.k = 2 then voteF d m else if m.k = 4 then ackF d m else if d.ro = 2 then (d, []) else toldF d m
theorem step_eq {c : CoL} {m : MsL} (h : deafB c m = false) (hm : m.m = c.tm) : stepF c m = goF c (bouM m) := by
 unfold stepF; rw [if_neg (by rw [h]; decide)]
 dsimp only
 rw [if_neg (by omega)]
 have e : termC c m = c := by unfold termC; rw [if_neg (by omega)]
 rw [e]; rfl
theorem go2 {d : CoL} {m : MsL} (h : m.k = 2) : goF d m = voteF d m := by unfold goF; rw [if_neg (by omega), if_pos h]
end Go.Proofs.YtegnfkbmlalkeaaGreat.cor
namespace Go.Proofs.YtegnfkbmlalkeaaGreat.cor
open Go Go.RowKit kit nums cf lg cr se
theorem bd_rest {w : World} {ops : Array Oper} {rest : List Oper} {o : Oper} {a : Act} {Q : Exit → Act → World → Prop} {q0 q2 q3 q6 q8 q9 : Operand} (c : CoL) (A : Option Addr) (n p : Nat) (ho : o.op = .build 33 #[(0, q0), (2, q2), (3, q3), (6, q6), (8, q8), (9, q9)]) (hw : Region.wanted o (yielded ops a.tmps) = true) (h0 : a.eval q0 = .int .i64 c.id) (h2 : a.eval q2 = .int .i64 c.tm) (h3 : a.eval q3 = .int .i64 c.vo) (h6 : a.eval q6 = .int .i64 c.lg.b) (h8 : a.eval q8 = lgV c.lg (.slice A n p)) (h9 : a.eval q9 = .string c.sn)
  (h : wpList Tryz.prog ops Q rest (a.put o.dst (crV (restC c) (.slice A n p))) w) : wpList Tryz.prog ops Q (o :: rest) a w := by
 refine wpList_val hw ?_ h
 have hr : (Instr.build 33 #[(0, .int .i64 c.id), (2, .int .i64 c.tm), (3, .int .i64 c.vo), (6, .int .i64 c.lg.b), (8, lgV c.lg (.slice A n p)), (9, .string c.sn)]).run Tryz.prog w = .ok (crV (restC c) (.slice A n p)) w := by kernel_rfl
 unfold execOp
 simp [ho, h0, h2, h3, h6, h8, h9, hr]
theorem restart_any (c : CoL) (A : Option Addr) (n p : Nat) (w : World) (B : Nat) (hR : RdE w B A n c.lg.es) (hB : B ≤ w.heap.size) (hp : n ≤ p) (hn : n ≤ 1000000) : Calls Tryz.prog 22 #[crV c (.slice A n p)] w fun e w' => ∃ A' n' p', e = .returned (crV (restC c) (.slice A' n' p')) ∧ RdE w' w'.heap.size A' n' (restC c).lg.es ∧ n' ≤ p' ∧ OldNew w.heap.size A n A' n' ∧ Below w.heap.size w w' := by
 have hn6 := Lh hn
 have R0 := hR.more hB
 clear hR hB
 go_enter Tryz.func22, Tryz.ntmps22
 have NIR0kC := Lh (NotIn.of_rd R0 (Nat.le_refl _))
 have LEkC : Hid (w.heap.size ≤ w.heap.size) := Nat.le_refl _
 go_wp2_with (first | go_skip | refine box_C rfl _ rfl c (.slice A n p) rfl ?_ | fail)
 intro y1 kC e1 s1
 clear s1
 have HB := e1
 replace R0 := R0.on e1 e1.size
 clear e1
 have LTkCkO := Lh kC.lt
 have NIR0kO := Lh (NotIn.of_rd R0 (Nat.le_refl _))
 have LEkO : Hid (w.heap.size ≤ y1.heap.size) := HB.size
 go_wp2_with (first | go_skip | refine al_C rfl rfl ?_ | (first | refine lo_Cj kC ?_ | refine lo_cLj kC ?_ | refine lo_cJj kC ?_))
 intro y2 kO e2 s2
 clear s2
 replace kO : Blk _ _ _ (crC zC (.slice none 0 0)) := kO
 replace HB := bt HB e2
 replace kC := kC.b e2
 replace R0 := R0.on e2 e2.size
 clear e2
 generalize y1.heap.size = gkO at *
 go_wp2_with (first | go_skip | refine lo_Cj kC ?_ | refine lo_cLj kC ?_ | refine lo_cJj kC ?_ | refine lo_Cj kO ?_ | refine lo_cLj kO ?_ | refine lo_cJj kO ?_)
 refine (own2_any c A n p y2 y2.heap.size R0 (Nat.le_refl _) hp hn6.out).mono ?_
 rintro e y3 ⟨A1, n1, p1, rfl, R1, hp1, ON1, hY⟩
 have NIR1kC := Lh (NIR0kC.out.next ON1 kC.lt)
 have NIR1kO := Lh (NIR0kO.out.next ON1 kO.lt)
 have ON12 := Lh ((OldNew.refl w.heap.size A n).trans ON1 HB.size)
 clear ON1
 replace HB := bt HB hY
 replace kC := kC.b hY
 replace kO := kO.b hY
 replace R0 := R0.on hY hY.size
 clear hY
 go_wp2_with (first | go_skip | refine st_C rfl _ _ rfl c A1 n1 p1 rfl rfl _ kC rfl ?_ | (first | refine lo_Cj kC ?_ | refine lo_cLj kC ?_ | refine lo_cJj kC ?_ | refine lo_Cj kO ?_ | refine lo_cLj kO ?_ | refine lo_cJj kO ?_))
 intro y4 kC2 pO
 replace kO := kO.put pO (Nat.ne_of_gt LTkCkO.out)
 replace R0 := R0.putS pO NIR0kC.out
 replace R1 := R1.putS pO NIR1kC.out
 replace HB := pO.below _ _ HB LEkC.out
 clear kC
 have kC := kC2
 clear kC2 pO
 have c0 : y4.cell? ⟨w.heap.size, 0, none⟩ = some (.int .i64 c.id) := kC.cell 0
 have c2 : y4.cell? ⟨w.heap.size, 2, none⟩ = some (.int .i64 c.tm) := kC.cell 2
 have c3 : y4.cell? ⟨w.heap.size, 3, none⟩ = some (.int .i64 c.vo) := kC.cell 3
 have c8 : y4.cell? ⟨w.heap.size, 8, none⟩ = some (.int .i64 c.lg.b) := kC.cell 8
 have c22 : y4.cell? ⟨w.heap.size, 22, none⟩ = some (.string c.sn) := kC.cell 22
 go_wp2_with (first | go_skip | refine st_C rfl _ _ rfl (restC c) A1 n1 p1 rfl rfl _ kO rfl ?_ | (first | refine lo_Cj kC ?_ | refine lo_cLj kC ?_ | refine lo_cJj kC ?_ | refine lo_Cj kO ?_ | refine lo_cLj kO ?_ | refine lo_cJj kO ?_ | refine bd_rest c A1 n1 p1 rfl rfl rfl rfl rfl rfl rfl rfl ?_))
 intro y5 kO2 pO
 replace kC := kC.put pO (Nat.ne_of_lt LTkCkO.out)
 replace R0 := R0.putS pO NIR0kO.out
 replace R1 := R1.putS pO NIR1kO.out
 replace HB := pO.below _ _ HB LEkO.out
 clear kO
 have kO := kO2
 clear kO2 pO
 clear c0 c2 c3 c8 c22
 go_wp2_with (first | go_skip | refine lo_Cj kC ?_ | refine lo_cLj kC ?_ | refine lo_cJj kC ?_ | refine lo_Cj kO ?_ | refine lo_cLj kO ?_ | refine lo_cJj kO ?_)
 (try simp only [Exit.inBlock, Exit.then])
 refine bodyPost_ret (res1 Tryz.results22 rfl (aggC _) (sizeC _) (ldCv kO)) rfl ?_
 exact ⟨A1, n1, p1, rfl, R1, hp1, ON12.out, HB⟩
end Go.Proofs.YtegnfkbmlalkeaaGreat.cor
