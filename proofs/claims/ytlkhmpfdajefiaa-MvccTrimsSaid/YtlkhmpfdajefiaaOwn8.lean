/- Calls at own slices of cells, and one operation more of a run (stage 8). Conditions: few cells, few versions, cells that may be. -/
import Derived.Test.YtlkhmpfdajefiaaDo8
import Derived.Test.YtlkhmpfdajefiaaLight8
import Derived.Test.YtlkhmpfdajefiaaBegun8
import Derived.Test.YtlkhmpfdajefiaaRef8j
namespace Go.Proofs.Ytlkhmpfdajefiaa.law8
open Go Go.RowKit Go.Proofs.Ytlkhmpfdajefiaa.kit Go.Proofs.Ytlkhmpfdajefiaa.nums Go.Proofs.Ytlkhmpfdajefiaa.st Go.Proofs.Ytlkhmpfdajefiaa.mv Go.Proofs.Ytlkhmpfdajefiaa.ref8
set_option linter.unusedVariables false

theorem few_settle {k : Nat} {cs : List CellL} (h : FewN k cs) (b : TrL) (yes : Bool) : FewN (k + 1) (settleF b yes cs) := by
  refine ⟨Nat.le_trans (settle_length _ _ _) (by have := h.1; omega), fun y hy => ?_⟩
  obtain ⟨x, hx, e⟩ := List.mem_filterMap.1 hy
  rw [keep_vers e]
  exact Nat.le_trans (free_vers _ _ _) (by have := h.2 x hx; omega)
theorem few_lock {k : Nat} {cs : List CellL} (h : FewN k cs) (ky : ByteArray) (l : LockL) : FewN (k + 1) (lockF ky l cs) :=
  ⟨Nat.le_trans (lock_length _ _ _) (by have := h.1; omega), fun y hy => Nat.le_trans (lock_vers _ _ k cs h.2 y hy) (by omega)⟩
theorem few_trim {k : Nat} {cs : List CellL} (h : FewN k cs) (t : StL) : FewN k (trimF t cs) := by
  refine ⟨Nat.le_trans (trim_length _ _) h.1, fun y hy => ?_⟩
  obtain ⟨x, hx, e⟩ := List.mem_filterMap.1 hy
  rw [keep_vers e]
  exact Nat.le_trans (cut_suffix t x.vers).length_le (h.2 x hx)
theorem few_of {k : Nat} {cs : List CellL} (h : FewN k cs) (hk : k ≤ 1000) : Few cs := ⟨Nat.le_trans h.1 hk, fun x hx => Nat.le_trans (h.2 x hx) hk⟩
/-- It reads at any world later on. -/
theorem own_rd {w wz : World} {base : Nat} {A : Option Addr} {c : Nat} {ds : List CellL} (hO : OwnCs w base (.slice A ds.length c) ds) (h : Below w.heap.size w wz) : RdC wz wz.heap.size A ds.length ds := by
  obtain ⟨A', c', e, _, _, hR⟩ := hO.rd
  simp only [Value.slice.injEq] at e
  obtain ⟨rfl, _, rfl⟩ := e
  exact (hR.below h).more h.size
theorem own_cap {w : World} {base : Nat} {A : Option Addr} {c : Nat} {ds : List CellL} (hO : OwnCs w base (.slice A ds.length c) ds) : ds.length ≤ c := by
  obtain ⟨A', c', e, h, _⟩ := hO.rd
  simp only [Value.slice.injEq] at e
  obtain ⟨_, _, rfl⟩ := e
  exact h
section
variable {w wz : World} {base : Nat} {A : Option Addr} {c : Nat} {ds : List CellL} (hO : OwnCs w base (.slice A ds.length c) ds) (h : Below w.heap.size w wz) (hf : Few ds)
include hO h hf
theorem own_may : Calls Try.prog 19 #[.slice A ds.length c] wz (RetB wz (okC ds)) := mvi.may_any A _ c ds wz _ (own_rd hO h) (Nat.le_refl _) hf
variable (hok : okC ds)
include hok
theorem own_settle (b : TrL) (yes : Bool) : Calls Try.prog 24 #[.slice A ds.length c, .agg #[.int .i64 b.node, .int .i64 b.life, .int .i64 b.seq, .int .i64 b.att], .bool yes] wz (RetCs wz (settleF b yes ds)) := mvi.settle_any A _ c ds b yes wz _ (own_rd hO h) (Nat.le_refl _) hf hok
theorem own_trim (t : StL) : Calls Try.prog 20 #[.slice A ds.length c, .agg #[.int .i64 t.wall, .int .i64 t.tie]] wz (RetCs wz (trimF t ds)) := mvi.trim_any A _ c ds t wz _ (own_rd hO h) (Nat.le_refl _) hf hok
theorem own_lock (k : ByteArray) (dr : Bool) (da : ByteArray) (l : LockL) : Calls Try.prog 25 #[.slice A ds.length c, .agg #[.string k, .bool dr, .string da], .agg #[.int .i64 l.by_.node, .int .i64 l.by_.life, .int .i64 l.by_.seq, .int .i64 l.by_.att, .int .i64 l.home, .int .i64 l.at_.wall, .int .i64 l.at_.tie, .bool l.drop, .string l.data]] wz (RetCs wz (lockF k (lockOf dr da l) ds)) := mvi.lock_any A _ c ds k dr da l wz _ (own_rd hO h) (Nat.le_refl _) hf hok
theorem own_get (k : ByteArray) (t : StL) : Calls Try.prog 26 #[.slice A ds.length c, .string k, .agg #[.int .i64 t.wall, .int .i64 t.tie]] wz (fun e w' => e = .returned (.tuple #[.string ((getF ds k t).getD noText), .bool (getF ds k t).isSome]) ∧ Below wz.heap.size wz w') := mvi.get_any A _ c ds k t wz _ (own_rd hO h) (Nat.le_refl _) hf hok
theorem own_mine (b : TrL) : Calls Try.prog 23 #[.slice A ds.length c, .agg #[.int .i64 b.node, .int .i64 b.life, .int .i64 b.seq, .int .i64 b.att]] wz (fun e w' => e = .returned (.bool (mineF ds b)) ∧ Below wz.heap.size wz w') := mvi.mine_any A _ c ds b wz _ (own_rd hO h) (Nat.le_refl _) hf hok
theorem own_held (k : ByteArray) : Calls Try.prog 27 #[.slice A ds.length c, .string k] wz (fun e w' => e = .returned (lkV (heldF ds k)) ∧ Below wz.heap.size wz w') := mvi.held_any A _ c ds k wz _ (own_rd hO h) (Nat.le_refl _) hf hok
theorem own_scan (lo hi : ByteArray) (t : StL) (most : Int) : Calls Try.prog 22 #[.slice A ds.length c, .agg #[.string lo, .string hi], .agg #[.int .i64 t.wall, .int .i64 t.tie], .int .i64 most] wz (RetPs wz (scanF ds lo hi t) most) := mvi.scan_any A _ c ds lo hi t most wz _ (own_rd hO h) (Nat.le_refl _) hf hok (own_cap hO)
theorem own_do (x : OpM) : Calls Try.prog 14 #[.slice A ds.length c, .agg (opC x).toArray] wz (RetDo wz (doF x ds)) := do_any A _ c ds x wz _ (own_rd hO h) (Nat.le_refl _) hf hok
end
theorem own_same {w1 w2 wz : World} {b1 b2 : Nat} {A1 A2 : Option Addr} {c1 c2 : Nat} {ds es : List CellL} (h1 : OwnCs w1 b1 (.slice A1 ds.length c1) ds) (q1 : Below w1.heap.size w1 wz) (f1 : Few ds) (h2 : OwnCs w2 b2 (.slice A2 es.length c2) es) (q2 : Below w2.heap.size w2 wz) (f2 : Few es) :
    Calls Try.prog 15 #[.slice A1 ds.length c1, .slice A2 es.length c2] wz (fun e w' => e = .returned (.bool (decide (ds = es))) ∧ Below wz.heap.size wz w') :=
  ref8.same_any A1 _ c1 ds A2 _ c2 es wz wz.heap.size (own_rd h1 q1) (own_rd h2 q2) (Nat.le_refl _) (by have := f1.1; omega) (by have := f2.1; omega) (fun x hx => by have := f1.2 x hx; omega) (fun x hx => by have := f2.2 x hx; omega)
/-- One operation more of a run. -/
theorem run_do {w wz : World} {base : Nat} {A : Option Addr} {m c : Nat} {os : List OpM} {j : Nat} {x : OpM} (hx : os[j]? = some x) (hl : os.length ≤ 60) (hm : (runF (os.take j)).length = m) (hO : OwnCs w base (.slice A m c) (runF (os.take j))) (h : Below w.heap.size w wz) :
    Calls Try.prog 14 #[.slice A m c, .agg (opC x).toArray] wz (RetDo wz (runF (os.take (j + 1)))) := by
  subst hm
  rw [run_step hx]
  exact own_do hO h (few_of (run_few (os.take j)) (by rw [List.length_take]; omega)) (run_ok _) x
end Go.Proofs.Ytlkhmpfdajefiaa.law8
