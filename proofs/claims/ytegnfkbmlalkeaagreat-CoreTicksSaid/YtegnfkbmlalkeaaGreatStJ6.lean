/- The landed core: May. Conditions: those that the theorem names. -/
import Derived.Deep.RegionHeld3
import Derived.Deep.Cut
import Derived.Lib.Hide
import Derived.Test.YtegnfkbmlalkeaaGreatStJ3
import Derived.Test.YtegnfkbmlalkeaaGreatStJ0
import Derived.Test.YtegnfkbmlalkeaaGreatStRefJ13
import Derived.Test.YtegnfkbmlalkeaaGreatStKitLg
import Derived.Test.YtegnfkbmlalkeaaGreatStKitCl
import Derived.Test.YtegnfkbmlalkeaaGreatStCorMb13
import Derived.Test.YtegnfkbmlalkeaaGreatStCorMc13
import Derived.Test.YtegnfkbmlalkeaaGreatStJ5
set_option linter.unusedVariables false
set_option maxHeartbeats 16000000
set_option maxRecDepth 10000
namespace Go.Proofs.YtegnfkbmlalkeaaGreat.ref13
open Go Go.RowKit kit nums cf lg cr se
def askedF (d : CoL) (l : List Int) : List MsL := (l.filter (fun n => !(n == d.id))).map (fun n => sayF d n (askM d))
theorem asked_yes {c : CoL} {l : List Int} {k : Nat} {n : Int} (h : l[k]? = some n) (hn : n ≠ c.id) : askedF c (l.take (k + 1)) = askedF c (l.take k) ++ [sayF c n (askM c)] := by
 rw [ref9.take_get h]; unfold askedF; rw [List.filter_append, List.map_append]; simp [hn]
theorem asked_no {c : CoL} {l : List Int} {k : Nat} {n : Int} (h : l[k]? = some n) (hn : n = c.id) : askedF c (l.take (k + 1)) = askedF c (l.take k) := by
 rw [ref9.take_get h]; unfold askedF; rw [List.filter_append, List.map_append]; simp [hn]
theorem asked_len (c : CoL) (l : List Int) : (askedF c l).length ≤ l.length := by unfold askedF; rw [List.length_map]; exact List.length_filter_le _ _
def tickE (c : CoL) : CoL × List MsL :=
 if ledF (conC c) c.id && decide (patF c.id ≤ c.wa) && decide (c.tm < 1099511627776) then
  if elJ (conC (standC c)) (standC c).vs then winsF (standC c)
  else (standC c, ((listF (unF (conC (standC c)) votF)).filter (fun n => !(n == (standC c).id))).map (fun n => sayF (standC c) n (askM (standC c))))
 else (c, [])
theorem tick_parts (c : CoL) : (c.ro = 2 → tickF c = (if ({ c with wa := c.wa + 1 } : CoL).wa = 10 then (if coJ (conC { c with wa := c.wa + 1 }) (withF ({ c with wa := c.wa + 1 } : CoL).he ({ c with wa := c.wa + 1 } : CoL).id) then { ({ c with wa := c.wa + 1 } : CoL) with he := 0, wa := 0 } else yieC { c with wa := c.wa + 1 }) else { c with wa := c.wa + 1 }, if ({ c with wa := c.wa + 1 } : CoL).wa % 2 = 0 then allF { c with wa := c.wa + 1 } else [])) ∧
  (c.ro ≠ 2 → tickF c = tickE { c with wa := c.wa + 1 }) := by
 refine ⟨fun h => ?_, fun h => ?_⟩
 · unfold tickF; dsimp only; rw [if_pos h]
 · unfold tickF tickE; dsimp only; rw [if_neg h]
theorem rb_lss {w : World} {a : Act} {o : Oper} {p q : Operand} {x y : Int} {b : Bool} (ho : o.op = .binOp .lss 3 p q 3) (hp : a.eval p = .int .i64 x) (hq : a.eval q = .int .i64 y) (hb : decide (x < y) = b) : (execOp a.eval o).run Tryz.prog w = .ok (.value (.bool b)) w := by
 subst hb
 unfold execOp
 simp only [ho, hp, hq]
 go_simp
theorem rb_geq {w : World} {a : Act} {o : Oper} {p q : Operand} {x y : Int} {b : Bool} (ho : o.op = .binOp .geq 3 p q 3) (hp : a.eval p = .int .i64 x) (hq : a.eval q = .int .i64 y) (hb : decide (x ≥ y) = b) : (execOp a.eval o).run Tryz.prog w = .ok (.value (.bool b)) w := by
 subst hb
 unfold execOp
 simp only [ho, hp, hq]
 go_simp
theorem pat_any (id : Int) (w : World) (h : 0 ≤ id ∧ id ≤ 9) : Calls Tryz.prog 25 #[.int .i64 id] w fun e w' => e = .returned (.int .i64 (patF id)) ∧ w = w' := by
 have w1 : IntKind.i64.wrap (4 * id) = 4 * id := wrap_sm (by omega) (by omega)
 have w2 : IntKind.i64.wrap (12 + 4 * id) = 12 + 4 * id := wrap_sm (by omega) (by omega)
 go_enter Tryz.func25, Tryz.ntmps25
 go_wp2_with fail
 go_ret
 exact ⟨rfl, rfl⟩
end Go.Proofs.YtegnfkbmlalkeaaGreat.ref13
namespace Go.Proofs.YtegnfkbmlalkeaaGreat.cor
open Go Go.RowKit kit nums cf lg cr se
theorem may_any (c : CoL) (A : Option Addr) (n p : Nat) (w : World) (B : Nat) (hR : RdE w B A n c.lg.es) (hB : B ≤ w.heap.size) (hp : n ≤ p) (hn : n ≤ 1000000) (hj : c.lg.j.ok) (hok : ∀ x ∈ c.lg.es, x.j.ok) : Calls Tryz.prog 13 #[crV c (.slice A n p)] w fun e w' => e = .returned (.bool (mayK c)) ∧ Below w.heap.size w w' := by
 cases e0 : (nodeB c.id) with
 | false => exact may_0 c A n p w B hR hB hp hn hj hok e0
 | true =>
  cases e1 : (upB c.ro 2) with
  | false => exact may_1 c A n p w B hR hB hp hn hj hok e0 e1
  | true =>
   cases e2 : (upB c.tm 1099511627776) with
   | false => exact may_2 c A n p w B hR hB hp hn hj hok e0 e1 e2
   | true =>
    cases e3 : (upB c.vo 9) with
    | false => exact may_3 c A n p w B hR hB hp hn hj hok e0 e1 e2 e3
    | true =>
     cases e4 : (upB c.le 9) with
     | false => exact may_4 c A n p w B hR hB hp hn hj hok e0 e1 e2 e3 e4
     | true =>
      cases e5 : (mayG c.lg) with
      | false => exact may_5 c A n p w B hR hB hp hn hj hok e0 e1 e2 e3 e4 e5
      | true =>
       cases e6 : (decide ((termF c.lg (lastF c.lg)).1 ≤ c.tm)) with
       | false => exact may_6 c A n p w B hR hB hp hn hj hok e0 e1 e2 e3 e4 e5 e6
       | true =>
        cases e7 : (decide (c.lg.b ≤ c.cm ∧ c.cm ≤ lastF c.lg)) with
        | false => exact may_7 c A n p w B hR hB hp hn hj hok e0 e1 e2 e3 e4 e5 e6 e7
        | true =>
         cases e8 : (upB c.wa 1099511627776) with
         | false => exact may_8 c A n p w B hR hB hp hn hj hok e0 e1 e2 e3 e4 e5 e6 e7 e8
         | true =>
          cases e9 : (upB c.sf 1099511627776) with
          | false => exact may_9 c A n p w B hR hB hp hn hj hok e0 e1 e2 e3 e4 e5 e6 e7 e8 e9
          | true =>
           cases e10 : (maA c.nx 2199023255552) with
           | false => exact may_10 c A n p w B hR hB hp hn hj hok e0 e1 e2 e3 e4 e5 e6 e7 e8 e9 e10
           | true =>
            cases e11 : (maA c.mt (lastF c.lg)) with
            | false => exact may_11 c A n p w B hR hB hp hn hj hok e0 e1 e2 e3 e4 e5 e6 e7 e8 e9 e10 e11
            | true =>
             exact may_12 c A n p w B hR hB hp hn hj hok e0 e1 e2 e3 e4 e5 e6 e7 e8 e9 e10 e11
end Go.Proofs.YtegnfkbmlalkeaaGreat.cor
