/- Plain numbers for a disk: two files, how much of each lasts, what is armed, and what each operation turns. It speaks of no program. -/
import Derived.Test.YtkjaljfoaagfdaaNums
namespace Go.Proofs.Ytkjaljfoaagfdaa.ds
open Go.Proofs.Ytkjaljfoaagfdaa.nums
set_option linter.unusedVariables false

structure DS where
  a : List Int
  b : List Int
  la : Nat
  lb : Nat
  off : Bool
  arms : Int
  powers : Nat
  stepped : Nat
namespace DS
def fresh : DS := ⟨[], [], 0, 0, false, -1, 0, 0⟩
def file (S : DS) (f : Int) : List Int := if f = 0 then S.a else S.b
def lasts (S : DS) (f : Int) : Nat := if f = 0 then S.la else S.lb
def setFile (S : DS) (f : Int) (l : List Int) : DS := if f = 0 then { S with a := l } else { S with b := l }
def setLasts (S : DS) (f : Int) (n : Nat) : DS := if f = 0 then { S with la := n } else { S with lb := n }
/-- The errors that each of the four tells first. -/
def may (S : DS) (f : Int) : Int := if S.off = true then 6 else if f = 0 ∨ f = 1 then 0 else 1
/-- One step: P4.2. -/
def step (S : DS) : DS := if S.arms = 0 then { S with off := true } else { S with arms := if 0 < S.arms then S.arms - 1 else S.arms, stepped := S.stepped + 1 }
def stepE (S : DS) : Int := if S.arms = 0 then 6 else 0
def full (S : DS) (f : Int) (n : Nat) : Prop := 4194304 - ((S.file f).length : Int) < n
instance (S : DS) (f : Int) (n : Nat) : Decidable (S.full f n) := by unfold full; infer_instance
def appE (S : DS) (f : Int) (l : List Int) : Int := if S.may f ≠ 0 then S.may f else if S.full f l.length then 8 else S.stepE
def appS (S : DS) (f : Int) (l : List Int) : DS := if S.may f ≠ 0 then S else if S.full f l.length then S else if S.arms = 0 then S.step else S.step.setFile f (S.file f ++ l)
def syncE (S : DS) (f : Int) : Int := if S.may f ≠ 0 then S.may f else S.stepE
def syncS (S : DS) (f : Int) : DS := if S.may f ≠ 0 then S else if S.arms = 0 then S.step else S.step.setLasts f (S.file f).length
def clearE (S : DS) (f : Int) : Int := S.syncE f
def clearS (S : DS) (f : Int) : DS := if S.may f ≠ 0 then S else if S.arms = 0 then S.step else (S.step.setFile f []).setLasts f 0
def readL (S : DS) (f : Int) : List Int := if S.may f ≠ 0 then [] else S.file f
def armS (S : DS) (n : Int) : DS := { S with arms := max n (-1) }
/-- So many bytes that wait are kept of file f. -/
def keepN (keep : List Int) (f : Nat) : Nat := (max (keep.getD f 0) 0).toNat
def powA (S : DS) (keep : List Int) : DS := { S with la := S.la + min (keepN keep 0) (S.a.length - S.la), a := S.a.take (S.la + min (keepN keep 0) (S.a.length - S.la)) }
def powB (S : DS) (keep : List Int) : DS := { S with lb := S.lb + min (keepN keep 1) (S.b.length - S.lb), b := S.b.take (S.lb + min (keepN keep 1) (S.b.length - S.lb)) }
def powS (S : DS) (keep : List Int) : DS := { (S.powA keep).powB keep with off := false, arms := -1, powers := S.powers + 1 }
/-- What holds of each disk. -/
structure Good (S : DS) : Prop where
  ya : Byt S.a
  yb : Byt S.b
  la : S.la ≤ S.a.length
  lb : S.lb ≤ S.b.length
  na : S.a.length ≤ 4194304
  nb : S.b.length ≤ 4194304
  a0 : -1 ≤ S.arms
  a1 : S.arms ≤ 9223372036854775807
  p1 : S.powers ≤ 1000000000
  s1 : S.stepped ≤ 1000000000
end DS
end Go.Proofs.Ytkjaljfoaagfdaa.ds
