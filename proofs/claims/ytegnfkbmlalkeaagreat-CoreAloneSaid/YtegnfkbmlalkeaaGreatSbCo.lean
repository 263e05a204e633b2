/- Cores and messages as plain values: what is sent, counted, won, stepped, proposed. It speaks of no program. -/
import Derived.Test.YtegnfkbmlalkeaaGreatSbJ1
namespace Go.Proofs.YtegnfkbmlalkeaaGreat.cr
open Go.Proofs.YtegnfkbmlalkeaaGreat.nums Go.Proofs.YtegnfkbmlalkeaaGreat.se Go.Proofs.YtegnfkbmlalkeaaGreat.cf Go.Proofs.YtegnfkbmlalkeaaGreat.lg
set_option linter.unusedVariables false
structure MsL where
 k : Int
 f : Int
 t : Int
 m : Int
 i : Int
 lt : Int
 c : Int
 s : Int
 y : Bool
 es : List EnL
 d : ByteArray
 j : JtL
def zM : MsL := ⟨0, 0, 0, 0, 0, 0, 0, 0, false, [], ⟨#[]⟩, zeroJ⟩
structure CoL where
 id : Int
 ro : Int
 tm : Int
 vo : Int
 le : Int
 wa : Int
 cm : Int
 sf : Int
 lg : LgL
 sn : ByteArray
 vs : Nat
 he : Nat
 nx : Nat → Int
 mt : Nat → Int
def z10 : Nat → Int := fun _ => 0
def upd (f : Nat → Int) (k : Nat) (v : Int) : Nat → Int := fun j => if j = k then v else f j
def zC : CoL := ⟨0, 0, 0, 0, 0, 0, 0, 0, zL, ⟨#[]⟩, 0, 0, z10, z10⟩
def newC (id : Int) (j : JtL) : CoL := { zC with id := id, lg := { zL with j := j } }
def patF (id : Int) : Int := 12 + 4 * id
def mayG (l : LgL) : Bool := lg.mayF l && (mayJ l.j && l.es.all fun e => !(e.k == 2) || mayJ e.j)
def upB (n m : Int) : Bool := decide (0 ≤ n) && decide (n ≤ m)
def mayK (c : CoL) : Bool :=
 nodeB c.id && (upB c.ro 2 && (upB c.tm 1099511627776 && (upB c.vo 9 && (upB c.le 9 && (mayG c.lg && (decide ((termF c.lg (lastF c.lg)).1 ≤ c.tm) && (decide (c.lg.b ≤ c.cm ∧ c.cm ≤ lastF c.lg) && (upB c.wa 1099511627776 && (upB c.sf 1099511627776 && ((List.range 10).all fun k => upB (c.nx k) 2199023255552 && upB (c.mt k) (lastF c.lg)))))))))))
def conC (c : CoL) : JtL := confF c.lg.j c.lg.es
def cnoL (b : Int) (es : List EnL) : Nat → Int
 | 0 => b
 | k + 1 => if (es[k]?).map (·.k) = some 2 then b + 1 + (k : Int) else cnoL b es k
def cnoF (l : LgL) : Int := cnoL l.b l.es l.es.length
def atC (l : LgL) : Int := cnoF l
def sayF (c : CoL) (to : Int) (m : MsL) : MsL := { m with f := c.id, t := to, m := c.tm }
def nxF (c : CoL) (n : Int) : Int := c.nx n.toNat
def mtF (c : CoL) (n : Int) : Int := c.mt n.toNat
def sendF (c : CoL) (n : Int) : MsL :=
 if nxF c n ≤ c.lg.b then sayF c n { zM with k := 5, i := c.lg.b, lt := c.lg.t, d := c.sn, j := c.lg.j, c := c.cm, s := c.sf }
 else sayF c n { zM with k := 3, i := nxF c n - 1, lt := (termF c.lg (nxF c n - 1)).1, es := sliceF c.lg (nxF c n) 8, c := c.cm, s := c.sf }
def allF (c : CoL) : List MsL := ((listF (unF (conC c) memF)).filter (fun n => !(n == c.id))).map (sendF c)
def pushC (c : CoL) (e : EnL) : CoL := { c with lg := pushF c.lg { e with t := c.tm }, mt := upd c.mt c.id.toNat (lastF c.lg + 1) }
def hasTo (c : CoL) (i : Int) : Nat → Nat
 | 0 => 0
 | n + 1 => if i ≤ mtF c ((n + 1 : Nat) : Int) then withF (hasTo c i n) ((n + 1 : Nat) : Int) else hasTo c i n
def hasC (c : CoL) (i : Int) : Nat := hasTo c i 9
def leastL (c : CoL) (s : Int) (l : List Int) : Int := l.foldl (fun s v => if s < 0 ∨ mtF c v < s then mtF c v else s) s
def twoF (j : JtL) : List CfL := if j.two then [j.a, j.b] else [j.a]
def leastC (c : CoL) : Int := (twoF (conC c)).foldl (fun s x => leastL c s (listF x.v)) (-1)
def seekF (p : Int → Bool) (lo : Int) : Nat → Int
 | 0 => lo
 | k + 1 => if p (lo + ((k + 1 : Nat) : Int)) then lo + ((k + 1 : Nat) : Int) else seekF p lo k
def cmtP (c : CoL) (i : Int) : Bool := decide ((termF c.lg i).1 = c.tm) && coJ (conC c) (hasC c i)
def cntC (c : CoL) : CoL := { c with cm := seekF (cmtP c) c.cm (lastF c.lg - c.cm).toNat, sf := max c.sf (leastC c) }
def yieC (c : CoL) : CoL := { c with ro := 0, le := 0, wa := 0 }
def fiE (j : JtL) : EnL := { zE with k := 2, j := finalJ j }
def endC (c : CoL) : CoL := if atC c.lg ≤ c.cm then (if ledF (conC c) c.id then c else yieC c) else c
def couC (c : CoL) : CoL :=
 let d := cntC c
 if atC d.lg ≤ d.cm ∧ (conC d).two = true then endC (cntC (pushC d (fiE (conC d)))) else endC d
def winC (c : CoL) : CoL := couC (pushC { c with ro := 2, le := c.id, wa := 0, he := 0, nx := fun _ => lastF c.lg + 1, mt := z10 } zE)
def winsF (c : CoL) : CoL × List MsL := (winC c, allF (winC c))
def askM (c : CoL) : MsL := { zM with k := 1, i := lastF c.lg, lt := (termF c.lg (lastF c.lg)).1, c := c.cm }
def standC (c : CoL) : CoL := { c with tm := c.tm + 1, ro := 1, vo := c.id, vs := withF 0 c.id, le := 0, wa := 0 }
def tickF (c0 : CoL) : CoL × List MsL :=
 let c := { c0 with wa := c0.wa + 1 }
 if c0.ro = 2 then
   let out := if c.wa % 2 = 0 then allF c else []
   (if c.wa = 10 then (if coJ (conC c) (withF c.he c.id) then { c with he := 0, wa := 0 } else yieC c) else c, out)
 else if ledF (conC c) c.id && decide (patF c.id ≤ c.wa) && decide (c.tm < 1099511627776) then
   let d := standC c
   if elJ (conC d) d.vs then winsF d
   else (d, ((listF (unF (conC d) votF)).filter (fun n => !(n == d.id))).map (fun n => sayF d n (askM d)))
 else (c, [])
def bouF (v : Int) : Int := min (max v 0) 1099511627776
def bouM (m : MsL) : MsL := { m with i := bouF m.i, c := bouF m.c, s := bouF m.s }
def deafB (c : CoL) (m : MsL) : Bool :=
 !(m.t == c.id) || !nodeB m.f || m.f == c.id || decide (m.m < 1) || decide (1099511627776 < m.m) || decide (m.k < 1) || decide (6 < m.k) ||
   (m.k == 1 && (c.ro == 2 || (!(c.le == 0) && decide (c.wa < 10))))
def termC (c : CoL) (m : MsL) : CoL := if c.tm < m.m then { c with tm := m.m, vo := 0, le := 0, ro := 0, wa := if c.ro = 2 then 0 else c.wa } else c
def staleF (c : CoL) (m : MsL) : List MsL :=
 if m.k = 1 then [sayF c m.f { zM with k := 2 }] else if m.k = 3 ∨ m.k = 5 then [sayF c m.f { zM with k := 4 }] else []
def lendAt (c : CoL) (m : MsL) : Int := if (termF c.lg m.i).2 = true ∧ (termF c.lg m.i).1 = m.lt then m.i else c.lg.b
def askF (c : CoL) (m : MsL) : CoL × List MsL :=
 let nw := newerF c.lg m.i m.lt
 if (c.vo = 0 ∨ c.vo = m.f) ∧ c.ro = 0 ∧ nw = true then
   let d := { c with vo := m.f, wa := 0 }
   (d, [sayF d m.f { zM with k := 2, y := true }])
 else if nw = true then (c, [sayF c m.f { zM with k := 2 }])
 else (c, [sayF c m.f { zM with k := 2 }, sayF c m.f { zM with k := 6, i := lendAt c m, lt := (termF c.lg (lendAt c m)).1, es := sliceF c.lg (lendAt c m + 1) 16384 }])
def takeB (c : CoL) (m : MsL) : Bool :=
 if m.k = 5 then mayJ m.j && upB m.lt c.tm
 else (m.es.all fun e => decide (e.t ≤ c.tm) && (!(e.k == 2) || mayJ e.j)) &&
   (!(mergeF c.lg m.i m.lt m.es).2.2 || (lg.mayF (mergeF c.lg m.i m.lt m.es).1 && decide ((mergeF c.lg m.i m.lt m.es).1.es.length ≤ 4096)))
def follC (c : CoL) (m : MsL) : CoL := { c with ro := 0, le := m.f, wa := 0 }
def snapF (c : CoL) (m : MsL) : CoL × List MsL :=
 let d := { c with sf := max c.sf m.s }
 if m.i ≤ d.cm then (d, [sayF d m.f { zM with k := 4, y := true, i := d.cm }])
 else
   let l : LgL := if (termF d.lg m.i).2 = true ∧ (termF d.lg m.i).1 = m.lt then { (compactF d.lg m.i).1 with j := m.j } else ⟨m.i, m.lt, m.j, []⟩
   let e := { d with lg := l, sn := m.d, cm := m.i }
   (e, [sayF e m.f { zM with k := 4, y := true, i := m.i }])
def toldF (c : CoL) (m : MsL) : CoL × List MsL :=
 if takeB c m = true then
   let r := mergeF c.lg m.i m.lt m.es
   if m.k = 6 then
     (if r.2.2 = true ∧ newerF c.lg (lastF r.1) (termF r.1 (lastF r.1)).1 = true then { c with lg := r.1, cm := min c.cm (lastF r.1) } else c, [])
   else
     let d := follC c m
     if m.k = 5 then snapF d m
     else if r.2.2 = true then
       let e := { d with lg := r.1, cm := min (max d.cm (min m.c r.2.1)) (lastF r.1), sf := max d.sf m.s }
       (e, [sayF e m.f { zM with k := 4, y := true, i := r.2.1 }])
     else (d, [sayF d m.f { zM with k := 4, i := max (min (m.i - 1) (lastF d.lg)) 0 }])
 else (c, [])
def ackF (c : CoL) (m : MsL) : CoL × List MsL :=
 if c.ro = 2 then
   let c1 := { c with he := withF c.he m.f }
   if m.y = true then
     let v := max (mtF c1 m.f) (min m.i (lastF c1.lg))
     let d := couC { c1 with mt := upd c1.mt m.f.toNat v, nx := upd c1.nx m.f.toNat (v + 1) }
     (d, if d.ro = 2 ∧ nxF d m.f ≤ lastF d.lg then [sendF d m.f] else [])
   else
     let d := { c1 with nx := upd c1.nx m.f.toNat (max (min (m.i + 1) (lastF c1.lg + 1)) (mtF c1 m.f + 1)) }
     (d, [sendF d m.f])
 else (c, [])
def voteF (c : CoL) (m : MsL) : CoL × List MsL :=
 if c.ro = 1 ∧ m.y = true then
   let d := { c with vs := withF c.vs m.f }
   if elJ (conC d) d.vs = true then winsF d else (d, [])
 else (c, [])
def stepF (c0 : CoL) (m0 : MsL) : CoL × List MsL :=
 if deafB c0 m0 = true then (c0, [])
 else
   let c := termC c0 m0
   if m0.m < c0.tm then (c, staleF c m0)
   else
     let m := bouM m0
     if m.k = 1 then askF c m
     else if m.k = 2 then voteF c m
     else if m.k = 4 then ackF c m
     else if c.ro = 2 then (c, []) else toldF c m
def lagB (c : CoL) (j : JtL) (to : CfL) : Bool := (listF to.v).any fun n => !hasF j.a.v n && decide (mtF c n < c.cm)
def chE (c : CoL) (to : CfL) : Int :=
 if (termF c.lg c.cm).1 ≠ c.tm ∨ c.cm < atC c.lg then 10 else if changeE (conC c) to ≠ 0 then changeE (conC c) to else if lagB c (conC c) to = true then 10 else 0
def propX (c : CoL) (e : EnL) : EnL := if e.k = 2 then { zE with k := 2, j := changeJ (conC c) e.j.b } else { zE with k := e.k, d := e.d }
def propE (c : CoL) (e : EnL) : Int :=
 if c.ro ≠ 2 then 27 else if e.k ≠ 1 ∧ e.k ≠ 2 then 9 else if 4032 ≤ c.lg.es.length then 8 else if e.k = 2 then chE c e.j.b else 0
def propF (c : CoL) (e : EnL) : CoL × List MsL × Int × Int :=
 if propE c e = 0 then
   let p := pushC c (propX c e)
   let d := couC p
   (d, if d.ro = 2 then allF d else [], lastF p.lg, 0)
 else (zC, [], 0, propE c e)
end Go.Proofs.YtegnfkbmlalkeaaGreat.cr
