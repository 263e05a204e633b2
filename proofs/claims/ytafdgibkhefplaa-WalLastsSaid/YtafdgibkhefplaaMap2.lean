/- Plain laws on a map from int with the two keys 0 and 1: what a look-up tells, what a store turns, how it is made. Conditions: those that each theorem names. -/
import Derived.Test.YtafdgibkhefplaaJoin1
import Derived.Maps.Own
import Derived.Maps.OwnOps
namespace Go.Proofs.Ytafdgibkhefplaa.map2
open Go.RowKit Go.MapKept Go.Proofs.Ytafdgibkhefplaa.kit
set_option linter.unusedVariables false

def ent (k : Int) (v : Value) (n : Nat) : MapEntry := ⟨.int .i64 k, v, n⟩
/-- Block m is a map with the values va at 0 and vb at 1. -/
def IsMap (w : World) (m : Nat) (va vb : Value) : Prop := w.heap[m]? = some (.map #[ent 0 va 0, ent 1 vb 1] 2)
section
variable {P : Program} {w w' : World} {m : Nat} {va vb : Value} {t k e : TypeId}
theorem IsMap.lt (h : IsMap w m va vb) : m < w.heap.size := (Array.getElem?_eq_some_iff.1 h).1
theorem IsMap.keep (h : IsMap w m va vb) (hk : w'.heap[m]? = w.heap[m]?) : IsMap w' m va vb := hk.trans h
theorem IsMap.drew (h : IsMap w m va vb) : IsMap w.drew m va vb := h
theorem IsMap.alloc (h : IsMap w m va vb) (o : Obj) : IsMap (w.alloc o) m va vb := h.keep ((MapKept.heap_alloc w o).2 m h.lt)
theorem run_look0 (h : IsMap w m va vb) (ht : P.underlying t = some (.map k e)) (hk : P.underlying k = some (.int .i64)) : (Instr.lookup t (.map (some m)) (.int .i64 0) false).run P w = .ok va w := by
  have hc : (Instr.checkKey false 10000 k (.int .i64 0)).run P w = .ok () w := MapKept.run_checkKey (k := .int .i64 0) hk (by simp [IsKey]) false 9999
  have hf : Instr.findNow (.int .i64) (.int .i64 0) [ent 0 va 0, ent 1 vb 1] 0 = some (some (0, va)) := by simp [Instr.findNow, Instr.sameNow, ent]
  simp [Instr.lookup, run_underlying ht, MapKept.run_getObj_map h, hc, MapKept.run_findKey hk hf, Result.andThen]
theorem run_look1 (h : IsMap w m va vb) (ht : P.underlying t = some (.map k e)) (hk : P.underlying k = some (.int .i64)) : (Instr.lookup t (.map (some m)) (.int .i64 1) false).run P w = .ok vb w := by
  have hc : (Instr.checkKey false 10000 k (.int .i64 1)).run P w = .ok () w := MapKept.run_checkKey (k := .int .i64 1) hk (by simp [IsKey]) false 9999
  have hf : Instr.findNow (.int .i64) (.int .i64 1) [ent 0 va 0, ent 1 vb 1] 0 = some (some (1, vb)) := by simp [Instr.findNow, Instr.sameNow, ent]
  simp [Instr.lookup, run_underlying ht, MapKept.run_getObj_map h, hc, MapKept.run_findKey hk hf, Result.andThen]
theorem run_lookOk0 (h : IsMap w m va vb) (ht : P.underlying t = some (.map k e)) (hk : P.underlying k = some (.int .i64)) : (Instr.lookup t (.map (some m)) (.int .i64 0) true).run P w = .ok (.tuple #[va, .bool true]) w := by
  have hc : (Instr.checkKey false 10000 k (.int .i64 0)).run P w = .ok () w := MapKept.run_checkKey (k := .int .i64 0) hk (by simp [IsKey]) false 9999
  have hf : Instr.findNow (.int .i64) (.int .i64 0) [ent 0 va 0, ent 1 vb 1] 0 = some (some (0, va)) := by simp [Instr.findNow, Instr.sameNow, ent]
  simp [Instr.lookup, run_underlying ht, MapKept.run_getObj_map h, hc, MapKept.run_findKey hk hf, Result.andThen]
theorem run_lookOk1 (h : IsMap w m va vb) (ht : P.underlying t = some (.map k e)) (hk : P.underlying k = some (.int .i64)) : (Instr.lookup t (.map (some m)) (.int .i64 1) true).run P w = .ok (.tuple #[vb, .bool true]) w := by
  have hc : (Instr.checkKey false 10000 k (.int .i64 1)).run P w = .ok () w := MapKept.run_checkKey (k := .int .i64 1) hk (by simp [IsKey]) false 9999
  have hf : Instr.findNow (.int .i64) (.int .i64 1) [ent 0 va 0, ent 1 vb 1] 0 = some (some (1, vb)) := by simp [Instr.findNow, Instr.sameNow, ent]
  simp [Instr.lookup, run_underlying ht, MapKept.run_getObj_map h, hc, MapKept.run_findKey hk hf, Result.andThen]
theorem run_lookOkN (h : IsMap w m va vb) (ht : P.underlying t = some (.map k e)) (hk : P.underlying k = some (.int .i64)) {z : Value} (hz : (zeroValue e).run P w = .ok z w) {f : Int} (h0 : ¬ f = 0) (h1 : ¬ f = 1) :
    (Instr.lookup t (.map (some m)) (.int .i64 f) true).run P w = .ok (.tuple #[z, .bool false]) w := by
  have hc : (Instr.checkKey false 10000 k (.int .i64 f)).run P w = .ok () w := MapKept.run_checkKey (k := .int .i64 f) hk (by simp [IsKey]) false 9999
  have hf : Instr.findNow (.int .i64) (.int .i64 f) [ent 0 va 0, ent 1 vb 1] 0 = some none := by
    have e0 : (f == 0) = false := by simpa using h0
    have e1 : (f == 1) = false := by simpa using h1
    simp [Instr.findNow, Instr.sameNow, ent, e0, e1]
  simp [Instr.lookup, run_underlying ht, MapKept.run_getObj_map h, hc, MapKept.run_findKey hk hf, hz, Result.andThen]
theorem grown_set (w : World) (m : Nat) (o : Obj) : w.grownBy { w with heap := w.heap.setIfInBounds m o } (some m) :=
  ⟨rfl, rfl, rfl, by simp, fun i _ hi => by simp only [ne_eq, Option.some.injEq] at hi; rw [Array.getElem?_setIfInBounds_ne (fun e => hi e.symm)]⟩
theorem run_put0 (h : IsMap w m va vb) (ht : P.underlying t = some (.map k e)) (hk : P.underlying k = some (.int .i64)) (v : Value) :
    ∃ w', (Instr.mapUpdate t (.map (some m)) (.int .i64 0) v).run P w = .ok () w' ∧ IsMap w' m v vb ∧ w.grownBy w' (some m) := by
  have hc : (Instr.checkKey false 10000 k (.int .i64 0)).run P w = .ok () w := MapKept.run_checkKey (k := .int .i64 0) hk (by simp [IsKey]) false 9999
  have hf : Instr.findNow (.int .i64) (.int .i64 0) [ent 0 va 0, ent 1 vb 1] 0 = some (some (0, va)) := by simp [Instr.findNow, Instr.sameNow, ent]
  have hst : (Instr.keyThatStays (.int .i64 0) (.int .i64 0)).run P w = .ok (.int .i64 0) w := MapKept.run_keyThatStays (d := .int .i64) (by simp [IsKey])
  refine ⟨{ w with heap := w.heap.setIfInBounds m (.map #[ent 0 v 0, ent 1 vb 1] 2) }, ?_, (heap_set h).1, grown_set _ _ _⟩
  have hst' : (Instr.keyThatStays (ent 0 va 0).key (.int .i64 0)).run P w = .ok (.int .i64 0) w := hst
  simp [Instr.mapUpdate, run_underlying ht, MapKept.run_getObj_map h, hc, MapKept.run_findKey hk hf, hst', MapKept.run_setObj_map _ h, Result.andThen]
  rfl
theorem run_put1 (h : IsMap w m va vb) (ht : P.underlying t = some (.map k e)) (hk : P.underlying k = some (.int .i64)) (v : Value) :
    ∃ w', (Instr.mapUpdate t (.map (some m)) (.int .i64 1) v).run P w = .ok () w' ∧ IsMap w' m va v ∧ w.grownBy w' (some m) := by
  have hc : (Instr.checkKey false 10000 k (.int .i64 1)).run P w = .ok () w := MapKept.run_checkKey (k := .int .i64 1) hk (by simp [IsKey]) false 9999
  have hf : Instr.findNow (.int .i64) (.int .i64 1) [ent 0 va 0, ent 1 vb 1] 0 = some (some (1, vb)) := by simp [Instr.findNow, Instr.sameNow, ent]
  have hst : (Instr.keyThatStays (.int .i64 1) (.int .i64 1)).run P w = .ok (.int .i64 1) w := MapKept.run_keyThatStays (d := .int .i64) (by simp [IsKey])
  refine ⟨{ w with heap := w.heap.setIfInBounds m (.map #[ent 0 va 0, ent 1 v 1] 2) }, ?_, (heap_set h).1, grown_set _ _ _⟩
  have hst' : (Instr.keyThatStays (ent 1 vb 1).key (.int .i64 1)).run P w = .ok (.int .i64 1) w := hst
  simp [Instr.mapUpdate, run_underlying ht, MapKept.run_getObj_map h, hc, MapKept.run_findKey hk hf, hst', MapKept.run_setObj_map _ h, Result.andThen]
  rfl
/-- A map as it is filled: 0 first, then 1. -/
theorem run_first (h : w.heap[m]? = some (.map #[] 0)) (ht : P.underlying t = some (.map k e)) (hk : P.underlying k = some (.int .i64)) (v : Value) :
    ∃ w', (Instr.mapUpdate t (.map (some m)) (.int .i64 0) v).run P w = .ok () w' ∧ w'.heap[m]? = some (.map #[ent 0 v 0] 1) ∧ w.grownBy w' (some m) := by
  have hc : (Instr.checkKey false 10000 k (.int .i64 0)).run P w = .ok () w := MapKept.run_checkKey (k := .int .i64 0) hk (by simp [IsKey]) false 9999
  have hf : Instr.findNow (.int .i64) (.int .i64 0) [] 0 = some none := rfl
  refine ⟨{ w with heap := w.heap.setIfInBounds m (.map #[ent 0 v 0] 1) }, ?_, (heap_set h).1, grown_set _ _ _⟩
  simp [Instr.mapUpdate, run_underlying ht, MapKept.run_getObj_map h, hc, MapKept.run_findKey hk hf, MapKept.run_setObj_map _ h, Result.andThen]
  rfl
theorem run_second (h : w.heap[m]? = some (.map #[ent 0 va 0] 1)) (ht : P.underlying t = some (.map k e)) (hk : P.underlying k = some (.int .i64)) (v : Value) :
    ∃ w', (Instr.mapUpdate t (.map (some m)) (.int .i64 1) v).run P w = .ok () w' ∧ IsMap w' m va v ∧ w.grownBy w' (some m) := by
  have hc : (Instr.checkKey false 10000 k (.int .i64 1)).run P w = .ok () w := MapKept.run_checkKey (k := .int .i64 1) hk (by simp [IsKey]) false 9999
  have hf : Instr.findNow (.int .i64) (.int .i64 1) [ent 0 va 0] 0 = some none := by simp [Instr.findNow, Instr.sameNow, ent]
  refine ⟨{ w with heap := w.heap.setIfInBounds m (.map #[ent 0 va 0, ent 1 v 1] 2) }, ?_, (heap_set h).1, grown_set _ _ _⟩
  simp [Instr.mapUpdate, run_underlying ht, MapKept.run_getObj_map h, hc, MapKept.run_findKey hk hf, MapKept.run_setObj_map _ h, Result.andThen]
  rfl
end
/-- Both keys at once. -/
def pick (f : Int) (x y : Value) : Value := if f = 0 then x else y
section
variable {P : Program} {w w' : World} {m : Nat} {va vb : Value} {t k e : TypeId}
theorem run_look (h : IsMap w m va vb) (ht : P.underlying t = some (.map k e)) (hk : P.underlying k = some (.int .i64)) {f : Int} (hf : f = 0 ∨ f = 1) : (Instr.lookup t (.map (some m)) (.int .i64 f) false).run P w = .ok (pick f va vb) w := by
  rcases hf with rfl | rfl
  · exact run_look0 h ht hk
  · exact run_look1 h ht hk
theorem run_lookOk (h : IsMap w m va vb) (ht : P.underlying t = some (.map k e)) (hk : P.underlying k = some (.int .i64)) {f : Int} (hf : f = 0 ∨ f = 1) : (Instr.lookup t (.map (some m)) (.int .i64 f) true).run P w = .ok (.tuple #[pick f va vb, .bool true]) w := by
  rcases hf with rfl | rfl
  · exact run_lookOk0 h ht hk
  · exact run_lookOk1 h ht hk
theorem run_put (h : IsMap w m va vb) (ht : P.underlying t = some (.map k e)) (hk : P.underlying k = some (.int .i64)) (v : Value) {f : Int} (hf : f = 0 ∨ f = 1) :
    ∃ w', (Instr.mapUpdate t (.map (some m)) (.int .i64 f) v).run P w = .ok () w' ∧ IsMap w' m (pick f v va) (pick f vb v) ∧ w.grownBy w' (some m) := by
  rcases hf with rfl | rfl
  · exact run_put0 h ht hk v
  · exact run_put1 h ht hk v
end
/-- The map as it is filled, f keys of it. -/
def MapN (w : World) (m : Nat) (f : Nat) (va vb : Value) : Prop :=
  match f with
  | 0 => w.heap[m]? = some (.map #[] 0)
  | 1 => w.heap[m]? = some (.map #[ent 0 va 0] 1)
  | _ => IsMap w m va vb
section
variable {P : Program} {w w' : World} {m f : Nat} {va vb : Value} {t k e : TypeId}
theorem MapN.keep (h : MapN w m f va vb) (hk : w'.heap[m]? = w.heap[m]?) : MapN w' m f va vb := by
  match f, h with
  | 0, h => exact hk.trans h
  | 1, h => exact hk.trans h
  | _ + 2, h => exact IsMap.keep h hk
theorem MapN.map (h : MapN w m f va vb) : ∃ es c, w.heap[m]? = some (.map es c) := by
  match f, h with
  | 0, h => exact ⟨_, _, h⟩
  | 1, h => exact ⟨_, _, h⟩
  | _ + 2, h => exact ⟨_, _, h⟩
theorem run_fill (h : MapN w m f va vb) (hf : f < 2) (ht : P.underlying t = some (.map k e)) (hk : P.underlying k = some (.int .i64)) (v : Value) :
    ∃ w', (Instr.mapUpdate t (.map (some m)) (.int .i64 f) v).run P w = .ok () w' ∧ MapN w' m (f + 1) (pick f v va) (pick f vb v) ∧ w.grownBy w' (some m) := by
  match f, h, hf with
  | 0, h, _ => exact run_first h ht hk v
  | 1, h, _ => exact run_second h ht hk v
end
/-- 'make(map[K]V, 2)'. -/
theorem run_make2 {P : Program} {t k e : TypeId} (w : World) (ht : P.underlying t = some (.map k e)) : (Instr.makeMap t (some (.int .i64 2))).run P w = .ok (.map (some w.heap.size)) (w.alloc (.map #[] 0)) := by
  simp [Instr.makeMap, run_underlying ht, asInt, asIntOf, Result.andThen]
/-- The store at the operation, for the walk: what it turns is given by its equation. -/
theorem wpList_put {P : Program} (w : World) {ops : Array Oper} {rest : List Oper} {o : Oper} {a : Act} {Q : Exit → Act → World → Prop}
    (hg : o.guard = none) (m x v : Operand) (t : TypeId) (hop : o.op = Op.mapUpdate t m x v) (M K V : Value) (hm : a.eval m = M) (hx : a.eval x = K) (hv : a.eval v = V) (R : World → Prop)
    (hrun : ∃ w', (Instr.mapUpdate t M K V).run P w = .ok () w' ∧ R w')
    (hK : ∀ w', R w' → wpList P ops Q rest (a.put o.dst undef) w') : wpList P ops Q (o :: rest) a w := by
  refine wpList_plain hg fun K' hK' => ?_
  obtain ⟨w', hr, hR⟩ := hrun
  subst hm hx hv
  unfold Oper.wp
  simp [execOp, hop, hr, Result.andThen]
  exact hK' _ _ (hK w' hR)
end Go.Proofs.Ytafdgibkhefplaa.map2
