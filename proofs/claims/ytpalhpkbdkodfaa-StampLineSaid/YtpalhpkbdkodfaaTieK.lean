/- The map of the program's own Tie (four keys, each a struct of three numbers), as it is filled in any order. Conditions: those that each theorem names. -/
import Derived.Test.YtpalhpkbdkodfaaRef6
import Derived.Test.YtpalhpkbdkodfaaTieO
import Derived.MapKept
import Derived.Maps.RangeRun
namespace Go.Proofs.Ytpalhpkbdkodfaa.tie
open Go Go.RowKit Go.Proofs.Ytpalhpkbdkodfaa.kit Go.Proofs.Ytpalhpkbdkodfaa.nums Go.Proofs.Ytpalhpkbdkodfaa.st
set_option linter.unusedVariables false

/-- The four keys. -/
def fK : Nat → Value
  | 0 => .agg #[.int .i64 1, .int .i64 9, .int .i64 48]
  | 1 => .agg #[.int .i64 0, .int .i64 1048575, .int .i64 28]
  | 2 => .agg #[.int .i64 0, .int .i64 16777215, .int .i64 4]
  | _ => .agg #[.int .i64 0, .int .i64 15, .int .i64 0]
def fent (V : Nat → Int) (i b : Nat) : MapEntry := { key := fK i, val := .int .i64 (V i), born := b }
def fents (V : Nat → Int) (L : List Nat) : List MapEntry := L.mapIdx fun b i => fent V i b
theorem eq_key (i j : Nat) (hi : i < 4) (hj : j < 4) (w : World) : (Op.equal 65 (fK i) (fK j)).run Try.prog w = .ok (decide (i = j)) w := by
  rcases i with _ | _ | _ | _ | i
  iterate 4
    rcases j with _ | _ | _ | _ | j
    iterate 4 kernel_rfl
    omega
  omega
theorem check_key (i : Nat) (hi : i < 4) (w : World) : (Instr.checkKey false 10000 65 (fK i)).run Try.prog w = .ok () w := by
  rcases i with _ | _ | _ | _ | i
  iterate 4 kernel_rfl
  omega
theorem stay_key (i : Nat) (hi : i < 4) (w : World) : (Instr.keyThatStays (fK i) (fK i)).run Try.prog w = .ok (fK i) w := by
  rcases i with _ | _ | _ | _ | i
  iterate 4 kernel_rfl
  omega
theorem run_find (V : Nat → Int) (i : Nat) (hi : i < 4) (w : World) : ∀ (l : List MapEntry) (n : Nat), (∀ e ∈ l, ∃ j, j < 4 ∧ e.key = fK j) →
    ((∀ e ∈ l, e.key ≠ fK i) ∧ (Instr.findAsking 65 (fK i) l n).run Try.prog w = .ok none w) ∨
    ∃ (k : Nat) (e : MapEntry), l[k]? = some e ∧ e.key = fK i ∧ (Instr.findAsking 65 (fK i) l n).run Try.prog w = .ok (some (n + k, e.val)) w := by
  intro l
  induction l with
  | nil => intro n _; exact .inl ⟨fun e he => (by cases he), rfl⟩
  | cons x l ih =>
    intro n h
    obtain ⟨j, hj, hx⟩ := h x (by simp)
    have heq := eq_key i j hi hj w
    by_cases hij : i = j
    · subst hij
      refine .inr ⟨0, x, rfl, hx, ?_⟩
      rw [show decide (i = i) = true by simp] at heq
      simp [Instr.findAsking, hx, heq, Result.andThen]
    · rw [show decide (i = j) = false by simp [hij]] at heq
      have hne : fK j ≠ fK i := by
        intro hc
        have h2 := eq_key j i hj hi w
        rw [hc, eq_key i i hi hi w] at h2
        have hji : ¬ j = i := fun h => hij h.symm
        simp [hji] at h2
      rcases ih (n + 1) (fun e he => h e (List.mem_cons_of_mem _ he)) with ⟨h1, h2⟩ | ⟨k, e, h1, h2, h3⟩
      · refine .inl ⟨fun e he => ?_, by simp [Instr.findAsking, hx, heq, Result.andThen, h2]⟩
        rcases List.mem_cons.1 he with rfl | he
        · rw [hx]; exact hne
        · exact h1 e he
      · exact .inr ⟨k + 1, e, h1, h2, by simp [Instr.findAsking, hx, heq, Result.andThen, h3]; omega⟩
theorem fK_inj {i j : Nat} (hi : i < 4) (hj : j < 4) (h : fK i = fK j) : i = j := by
  have h1 := eq_key i j hi hj default
  rw [h, eq_key j j hj hj default] at h1
  simpa using h1
/-- The map at block g: the keys of L, in the order in which they were laid in. -/
def GM (w : World) (g : Nat) (V : Nat → Int) (L : List Nat) : Prop := w.heap[g]? = some (.map (fents V L).toArray L.length) ∧ (∀ x ∈ L, x < 4) ∧ L.Nodup
theorem GM.lt {w : World} {g : Nat} {V : Nat → Int} {L : List Nat} (h : GM w g V L) : g < w.heap.size := (Array.getElem?_eq_some_iff.1 h.1).1
theorem GM.keep {w w' : World} {g : Nat} {V : Nat → Int} {L : List Nat} (h : GM w g V L) (hk : w'.heap[g]? = w.heap[g]?) : GM w' g V L := ⟨hk.trans h.1, h.2⟩
theorem GM.below {w w' : World} {g B : Nat} {V : Nat → Int} {L : List Nat} (h : GM w g V L) (hb : Below B w w') (hg : g < B) : GM w' g V L := h.keep (hb.block g hg)
theorem fents_get (V : Nat → Int) (L : List Nat) (k : Nat) (e : MapEntry) (h : (fents V L)[k]? = some e) : ∃ hk : k < L.length, e = fent V L[k] k := by
  unfold fents at h
  rw [List.getElem?_mapIdx] at h
  obtain ⟨x, hx, rfl⟩ := Option.map_eq_some_iff.1 h
  obtain ⟨hk, rfl⟩ := List.getElem?_eq_some_iff.1 hx
  exact ⟨hk, rfl⟩
theorem fents_length (V : Nat → Int) (L : List Nat) : (fents V L).length = L.length := by simp [fents]
theorem fents_mem (V : Nat → Int) (L : List Nat) (e : MapEntry) (h : e ∈ fents V L) : ∃ (k : Nat) (hk : k < L.length), e = fent V L[k] k := by
  obtain ⟨k, hk⟩ := List.mem_iff_getElem?.1 h
  exact ⟨k, fents_get V L k e hk⟩
theorem run_put {w : World} {g : Nat} {V : Nat → Int} {L : List Nat} (h : GM w g V L) (i : Nat) (hi : i < 4) :
    ∃ w' L', (Instr.mapUpdate 66 (.map (some g)) (fK i) (.int .i64 (V i))).run Try.prog w = .ok () w' ∧ GM w' g V L' ∧ i ∈ L' ∧ (∀ x ∈ L, x ∈ L') ∧ Below g w w' ∧ w'.heap.size = w.heap.size := by
  have hkeys : ∀ e ∈ (fents V L), ∃ j, j < 4 ∧ e.key = fK j := fun e he => by
    obtain ⟨k, hk, rfl⟩ := fents_mem V L e he
    exact ⟨L[k], h.2.1 _ (List.getElem_mem hk), rfl⟩
  have hf : (Instr.findKey 65 (fK i) (fents V L)).run Try.prog w = (Instr.findAsking 65 (fK i) (fents V L)).run Try.prog w := by
    have hu := Try.underlying65
    cases hl : fents V L with
    | nil => simp [Instr.findKey, run_underlying hu, Instr.findNow, Instr.findAsking]
    | cons e es => simp [Instr.findKey, run_underlying hu, Instr.findNow, Instr.sameNow]
  have hbel : ∀ o : Obj, Below g w { w with heap := w.heap.setIfInBounds g o } := fun o => ⟨rfl, rfl, rfl, by simp, fun j hj => by simp [Array.getElem?_setIfInBounds_ne (show g ≠ j by omega)]⟩
  have hset : ∀ o : Obj, ({ w with heap := w.heap.setIfInBounds g o } : World).heap[g]? = some o := fun o => by simp [h.lt]
  rcases run_find V i hi w (fents V L) 0 hkeys with ⟨hno, hrun⟩ | ⟨k, e, hk, hek, hrun⟩
  · have hiL : i ∉ L := fun hm => by
      obtain ⟨k, hk, hki⟩ := List.mem_iff_getElem.1 hm
      have hmem : fent V L[k] k ∈ fents V L := List.mem_iff_getElem?.2 ⟨k, by unfold fents; rw [List.getElem?_mapIdx, List.getElem?_eq_getElem hk]; rfl⟩
      exact hno _ hmem (by rw [← hki]; rfl)
    refine ⟨{ w with heap := w.heap.setIfInBounds g (.map (fents V (L ++ [i])).toArray (L ++ [i]).length) }, L ++ [i], ?_, ⟨hset _, ?_, ?_⟩, by simp, fun x hx => by simp [hx], hbel _, by simp⟩
    · have hfe : (fents V (L ++ [i])).toArray = (fents V L).toArray.push (fent V i L.length) := by
        unfold fents
        rw [List.mapIdx_concat]
        simp
      rw [hfe, List.length_append]
      rw [← hf] at hrun
      simp [Instr.mapUpdate, run_underlying Try.underlying66, MapKept.run_getObj_map h.1, check_key i hi w, hrun, MapKept.run_setObj_map _ h.1, Result.andThen]
      rfl
    · intro x hx
      rcases List.mem_append.1 hx with hx | hx
      · exact h.2.1 x hx
      · rw [List.mem_singleton.1 hx]; exact hi
    · rw [List.nodup_append]
      exact ⟨h.2.2, by simp, fun a ha b hb => by rw [List.mem_singleton.1 hb]; intro hab; exact hiL (hab ▸ ha)⟩
  · obtain ⟨hkl, rfl⟩ := fents_get V L k e hk
    have hLk : L[k] = i := fK_inj (h.2.1 _ (List.getElem_mem hkl)) hi hek
    have hget : (fents V L).toArray[k]? = some (fent V L[k] k) := by simpa using hk
    refine ⟨{ w with heap := w.heap.setIfInBounds g (.map (fents V L).toArray L.length) }, L, ?_, ⟨hset _, h.2⟩, by rw [← hLk]; exact List.getElem_mem hkl, fun x hx => hx, hbel _, by simp⟩
    have hmod : (fents V L).toArray.modify k (fun e => { e with key := fK i, val := .int .i64 (V i) }) = (fents V L).toArray := by
      apply Array.ext
      · simp
      · intro j h1 h2
        rw [Array.getElem_modify]
        split
        · rename_i hjk
          subst hjk
          rw [Array.getElem?_eq_getElem h2] at hget
          rw [Option.some.inj hget]
          simp [fent, hLk]
        · rfl
    have hmodL : (fents V L).modify k (fun e => { e with key := fK i, val := .int .i64 (V i) }) = fents V L := by simpa using congrArg Array.toList hmod
    rw [← hf] at hrun
    have hst := stay_key i hi w
    have hkey : (fent V L[k] k).key = fK i := hek
    simp [Instr.mapUpdate, run_underlying Try.underlying66, MapKept.run_getObj_map h.1, check_key i hi w, hrun, MapKept.run_setObj_map _ h.1, Result.andThen, hk, hkey, hst]
    rw [hmodL]
/-- Which key it is. -/
def fI : Value → Nat
  | .agg #[_, _, .int _ n] => if n = 48 then 0 else if n = 28 then 1 else if n = 4 then 2 else 3
  | _ => 0
theorem fI_fK (i : Nat) (hi : i < 4) : fI (fK i) = i := by
  rcases i with _ | _ | _ | _ | i
  iterate 4 rfl
  omega
theorem fents_keys (V : Nat → Int) (L : List Nat) (h : ∀ x ∈ L, x < 4) : (fents V L).map (fun e => fI e.key) = L := by
  unfold fents
  apply List.ext_getElem
  · simp
  · intro k h1 h2
    simp only [List.getElem_map, List.getElem_mapIdx]
    exact fI_fK _ (h _ (List.getElem_mem h2))
theorem GM.eq {w : World} {g : Nat} {V : Nat → Int} {L M : List Nat} (h : GM w g V L) (h' : GM w g V M) : L = M := by
  have e := h.1.symm.trans h'.1
  simp only [Option.some.injEq, Obj.map.injEq] at e
  have e2 : fents V L = fents V M := by simpa using e.1
  rw [← fents_keys V L h.2.1, ← fents_keys V M h'.2.1, e2]
theorem fents_born (V : Nat → Int) (L : List Nat) : ((fents V L).map (·.born)).Nodup := by
  have e : (fents V L).map (·.born) = List.range L.length := by
    unfold fents
    apply List.ext_getElem
    · simp
    · intro k h1 h2
      simp [fent]
  rw [e]
  exact List.nodup_range
theorem fK_eq (i : Nat) (hi4 : i < 4) : fK i = .agg #[.int .i64 (lo i), .int .i64 (hi i), .int .i64 (sh i)] := by
  rcases i with _ | _ | _ | _ | i
  iterate 4 rfl
  omega
end Go.Proofs.Ytpalhpkbdkodfaa.tie
