/- The program's own disk in memory: its words, and what its inner functions none, check, kept, own, step come to. Conditions: those that each theorem names. -/
import Derived.Test.YtafdgibkhefplaaProg
import Derived.Test.YtafdgibkhefplaaJoin1
import Derived.Test.YtafdgibkhefplaaKitS
import Derived.Test.YtafdgibkhefplaaJoin0
import Derived.Test.YtafdgibkhefplaaMap2
import Derived.Outline
import Derived.StillTailTactics
namespace Go.Proofs.Ytafdgibkhefplaa.disk
open Go.RowKit Go.Proofs.Ytafdgibkhefplaa.kit Go.Proofs.Ytafdgibkhefplaa.nums Go.Proofs.Ytafdgibkhefplaa.ds Go.Proofs.Ytafdgibkhefplaa.map2
set_option linter.unusedVariables false

/-- What the map holds for a file. -/
def fileV (x : Value) (d : Nat) : Value := .agg #[x, .int .i64 d]
def cellsD (m : Nat) (S : DS) (z : Int) : List Value := [.map (some m), .bool S.off, .int .i64 z, .int .i64 S.powers, .int .i64 S.stepped]
/-- The disk S: its struct in block a, its map in block m, what is armed as z, the files' bytes in the slices xa and xb. -/
structure IsD (w : World) (a : Nat) (S : DS) (m : Nat) (z : Int) (xa xb : Value) : Prop where
  blk : Blk 70 w a (cellsD m S z)
  map : IsMap w m (fileV xa S.la) (fileV xb S.lb)
  oa : Own 5 w 0 xa S.a
  ob : Own 5 w 0 xb S.b
  apart : ∀ k, xa.ownBlock = some k → xb.ownBlock ≠ some k
  arms : (0 ≤ z ∧ S.arms = z) ∨ (z < 0 ∧ S.arms = -1)
  wf : -9223372036854775808 ≤ z ∧ z ≤ 9223372036854775807
def fpD (a m : Nat) (xa xb : Value) (k : Nat) : Prop := k = a ∨ k = m ∨ xa.ownBlock = some k ∨ xb.ownBlock = some k
/-- The program's disk S lies at block a; the blocks fp are its own. -/
def IsDisk (w : World) (a : Nat) (S : DS) (fp : Nat → Prop) : Prop := ∃ m z xa xb, IsD w a S m z xa xb ∧ fp = fpD a m xa xb
section
variable {w w' : World} {a : Nat} {S : DS} {m : Nat} {z : Int} {xa xb : Value}
theorem own_heap {x : Value} {l : List Int} {b k : Nat} (h : Own 5 w b x l) (hk : x.ownBlock = some k) : ∃ c, w.heap[k]? = some (.cells c 5 (0, 0)) := by
  rcases h.2 with ⟨hv, _⟩ | ⟨g, cap, cur, hv, _, hh, _⟩
  · rw [hv] at hk; simp [Value.ownBlock] at hk
  · rw [hv] at hk
    have e1 : g = k := by simpa [Value.ownBlock] using hk
    subst e1
    exact ⟨cur, hh⟩
theorem own_keep {x : Value} {l : List Int} {b : Nat} (h : Own 5 w b x l) (hk : ∀ k, x.ownBlock = some k → w'.heap[k]? = w.heap[k]?) : Own 5 w' b x l := by
  refine ⟨h.1, ?_⟩
  rcases h.2 with hn | ⟨g, cap, cur, rfl, hb, hg, r⟩
  · exact .inl hn
  · exact .inr ⟨g, cap, cur, rfl, hb, by rw [hk g rfl]; exact hg, r⟩
theorem IsD.keep (h : IsD w a S m z xa xb) (hk : ∀ k, fpD a m xa xb k → w'.heap[k]? = w.heap[k]?) : IsD w' a S m z xa xb := by
  refine ⟨?_, h.map.keep (hk m (.inr (.inl rfl))), own_keep h.oa (fun k e => hk k (.inr (.inr (.inl e)))), own_keep h.ob (fun k e => hk k (.inr (.inr (.inr e)))), h.apart, h.arms, h.wf⟩
  have := h.blk
  unfold Blk at *
  rw [hk a (.inl rfl)]; exact this
theorem IsD.lt (h : IsD w a S m z xa xb) : ∀ k, fpD a m xa xb k → k < w.heap.size := by
  rintro k (rfl | rfl | e | e)
  · exact h.blk.lt
  · exact h.map.lt
  · exact (h.oa.lt k e).2
  · exact (h.ob.lt k e).2
theorem IsD.am (h : IsD w a S m z xa xb) : a ≠ m := by
  intro e
  have h1 := h.blk
  have h2 := h.map
  unfold Blk at h1
  unfold IsMap at h2
  rw [e, h2] at h1
  simp at h1
theorem IsD.xaa (h : IsD w a S m z xa xb) : xa.ownBlock ≠ some a := by
  intro e
  obtain ⟨c, hc⟩ := own_heap h.oa e
  have h1 := h.blk
  unfold Blk at h1
  rw [hc] at h1
  simp at h1
theorem IsD.xba (h : IsD w a S m z xa xb) : xb.ownBlock ≠ some a := by
  intro e
  obtain ⟨c, hc⟩ := own_heap h.ob e
  have h1 := h.blk
  unfold Blk at h1
  rw [hc] at h1
  simp at h1
theorem IsD.xam (h : IsD w a S m z xa xb) : xa.ownBlock ≠ some m := by
  intro e
  obtain ⟨c, hc⟩ := own_heap h.oa e
  have h1 := h.map
  unfold IsMap at h1
  rw [hc] at h1
  simp at h1
theorem IsD.xbm (h : IsD w a S m z xa xb) : xb.ownBlock ≠ some m := by
  intro e
  obtain ⟨c, hc⟩ := own_heap h.ob e
  have h1 := h.map
  unfold IsMap at h1
  rw [hc] at h1
  simp at h1
theorem IsD.below (h : IsD w a S m z xa xb) (hb : Below w.heap.size w w') : IsD w' a S m z xa xb := h.keep (fun k hk => hb.block k (h.lt k hk))
theorem IsD.c0 (h : IsD w a S m z xa xb) : w.cell? ⟨a, 0, none⟩ = some (.map (some m)) := by rw [h.blk.cell]; rfl
theorem IsD.c1 (h : IsD w a S m z xa xb) : w.cell? ⟨a, 1, none⟩ = some (.bool S.off) := by rw [h.blk.cell]; rfl
theorem IsD.c2 (h : IsD w a S m z xa xb) : w.cell? ⟨a, 2, none⟩ = some (.int .i64 z) := by rw [h.blk.cell]; rfl
theorem IsD.c3 (h : IsD w a S m z xa xb) : w.cell? ⟨a, 3, none⟩ = some (.int .i64 S.powers) := by rw [h.blk.cell]; rfl
theorem IsD.c4 (h : IsD w a S m z xa xb) : w.cell? ⟨a, 4, none⟩ = some (.int .i64 S.stepped) := by rw [h.blk.cell]; rfl
/-- A cell of the struct is written. -/
theorem IsD.set (h : IsD w a S m z xa xb) {S' : DS} {z' : Int} (i : Nat) (u : Value) (e : (cellsD m S z).set i u = cellsD m S' z') (ea : S'.a = S.a) (eb : S'.b = S.b) (ela : S'.la = S.la) (elb : S'.lb = S.lb)
    (harms : (0 ≤ z' ∧ S'.arms = z') ∨ (z' < 0 ∧ S'.arms = -1)) (hwf : -9223372036854775808 ≤ z' ∧ z' ≤ 9223372036854775807) : IsD (w.setCell ⟨a, i, none⟩ u) a S' m z' xa xb := by
  have hfar : ∀ k, k ≠ a → (w.setCell ⟨a, i, none⟩ u).heap[k]? = w.heap[k]? := fun k hk => Below.heap_setCell w ⟨a, i, none⟩ u k hk
  refine ⟨?_, ?_, ?_, ?_, h.apart, harms, hwf⟩
  · rw [← e]; exact Blk.set_ h.blk i u
  · rw [ela, elb]; exact h.map.keep (hfar m h.am.symm)
  · rw [ea]; exact own_keep h.oa (fun k hk => hfar k (fun e' => h.xaa (e' ▸ hk)))
  · rw [eb]; exact own_keep h.ob (fun k hk => hfar k (fun e' => h.xba (e' ▸ hk)))
end
theorem IsDisk.lt {w : World} {a : Nat} {S : DS} {fp : Nat → Prop} (h : IsDisk w a S fp) : ∀ k, fp k → k < w.heap.size := by
  obtain ⟨m, z, xa, xb, h, rfl⟩ := h
  exact h.lt
theorem IsDisk.keep {w w' : World} {a : Nat} {S : DS} {fp : Nat → Prop} (h : IsDisk w a S fp) (hk : ∀ k, fp k → w'.heap[k]? = w.heap[k]?) : IsDisk w' a S fp := by
  obtain ⟨m, z, xa, xb, h, rfl⟩ := h
  exact ⟨m, z, xa, xb, h.keep hk, rfl⟩

theorem eq_some (m : Nat) (w : World) : (binOp BinOp.eql 68 (Value.map (some m)) (Value.map none)).run Try.prog w = .ok (.bool false) w := by kernel_rfl
theorem eq_none (w : World) : (binOp BinOp.eql 68 (Value.map none) (Value.map none)).run Try.prog w = .ok (.bool true) w := by kernel_rfl
theorem none_any (a m : Nat) (w : World) (h : w.cell? ⟨a, 0, none⟩ = some (.map (some m))) : Calls Try.prog 50 #[.pointer (some ⟨a, 0, none⟩)] w fun e w' => e = .returned (.bool false) ∧ w = w' := by
  have he := eq_some m
  go_enter Try.func50, Try.ntmps50
  go_wp2_with fail
  go_ret
  exact ⟨rfl, rfl⟩
theorem none_nil (w : World) : Calls Try.prog 50 #[.pointer none] w fun e w' => e = .returned (.bool true) ∧ w = w' := by
  go_enter Try.func50, Try.ntmps50
  go_wp2_with fail
  go_ret
  exact ⟨rfl, rfl⟩
theorem none_zero (a : Nat) (w : World) (h : w.cell? ⟨a, 0, none⟩ = some (.map none)) : Calls Try.prog 50 #[.pointer (some ⟨a, 0, none⟩)] w fun e w' => e = .returned (.bool true) ∧ w = w' := by
  have he := eq_none
  go_enter Try.func50, Try.ntmps50
  go_wp2_with fail
  go_ret
  exact ⟨rfl, rfl⟩
theorem zero_file (w : World) : (zeroValue 72).run Try.prog w = .ok (fileV (.slice none 0 0) 0) w := by kernel_rfl
theorem under_map : Try.prog.underlying 68 = some (.map 3 72) := by kernel_rfl
theorem file_shape {w : World} {a m : Nat} {S : DS} {z : Int} {xa xb : Value} (h : IsD w a S m z xa xb) {f : Int} (hf : f = 0 ∨ f = 1) :
    ∃ A c, pick f (fileV xa S.la) (fileV xb S.lb) = fileV (.slice A (S.file f).length c) (S.lasts f) ∧ (S.file f).length ≤ c ∧ c ≤ maxLen ∧ pick f xa xb = .slice A (S.file f).length c ∧ Own 5 w 0 (.slice A (S.file f).length c) (S.file f) := by
  rcases hf with rfl | rfl
  · obtain ⟨A, c, rfl, h1, h2, _⟩ := h.oa.slice
    exact ⟨A, c, rfl, h1, h2, rfl, h.oa⟩
  · obtain ⟨A, c, rfl, h1, h2, _⟩ := h.ob.slice
    exact ⟨A, c, rfl, h1, h2, rfl, h.ob⟩
theorem field0 (w : World) (x y : Value) : (Instr.field 72 (.agg #[x, y]) 0).run Try.prog w = .ok x w := by kernel_rfl
theorem check_any (a : Nat) (S : DS) (m : Nat) (z : Int) (xa xb : Value) (f : Int) (w : World) (h : IsD w a S m z xa xb) :
    Calls Try.prog 70 #[.pointer (some ⟨a, 0, none⟩), .int .i64 f] w fun e w' => e = .returned (.int .i64 (S.may f)) ∧ Below w.heap.size w w' := by
  have C0 := Lib.hid (none_any a m w h.c0)
  have c0 := h.c0
  have c1 := h.c1
  have hB := Lib.hid (Below.refl w.heap.size w)
  rcases hoff : S.off with _ | _
  · rw [hoff] at c1
    by_cases hf : f = 0 ∨ f = 1
    · have HM := Lib.hid (show S.may f = 0 by unfold DS.may; rw [hoff, if_neg (by simp), if_pos hf])
      have hl := run_lookOk h.map under_map Try.underlying3 hf
      obtain ⟨A, c, hv, _, _, _, _⟩ := file_shape h hf
      rw [hv] at hl
      have HF := Lib.hid h
      clear h hv
      unfold fileV at hl
      go_enter Try.func70, Try.ntmps70
      go_wp2_with fail
      refine C0.out.mono ?_
      rintro e w1 ⟨rfl, rfl⟩
      go_wp2_with fail
      go_ret
      rw [HM.out]
      refine ⟨rfl, ?_⟩
      exact (Below.refl _ _).alloc (Nat.le_refl _) _
    · have HM := Lib.hid (show S.may f = 1 by unfold DS.may; rw [hoff, if_neg (by simp), if_neg hf])
      have hl := run_lookOkN h.map under_map Try.underlying3 (zero_file w) (fun e => hf (.inl e)) (fun e => hf (.inr e))
      have HF := Lib.hid h
      clear h
      unfold fileV at hl
      go_enter Try.func70, Try.ntmps70
      go_wp2_with fail
      refine C0.out.mono ?_
      rintro e w1 ⟨rfl, rfl⟩
      go_wp2_with fail
      go_ret
      rw [HM.out]
      exact ⟨rfl, (Below.refl _ _).alloc (Nat.le_refl _) _⟩
  · rw [hoff] at c1
    have HM := Lib.hid (show S.may f = 6 by unfold DS.may; rw [hoff, if_pos rfl])
    go_enter Try.func70, Try.ntmps70
    go_wp2_with fail
    refine C0.out.mono ?_
    rintro e w1 ⟨rfl, rfl⟩
    go_wp2_with fail
    go_ret
    rw [HM.out]
    exact ⟨rfl, hB.out⟩
theorem kept_any (K : Option Addr) (n c : Nat) (zs : List Int) (f p : Nat) (w : World) (hZ : RdV w w.heap.size K n (zs.map (Value.int .i64))) (hz : ∀ z ∈ zs, -9223372036854775808 ≤ z ∧ z ≤ 9223372036854775807) (hf : f < 2) (hn : n ≤ 1099511627776) (hp : p ≤ 4194304) :
    Calls Try.prog 56 #[.slice K n c, .int .i64 f, .int .i64 p] w fun e w' => e = .returned (.int .i64 (min (DS.keepN zs f) p : Nat)) ∧ w = w' := by
  have hl : zs.length = n := by have := hZ.1; rwa [List.length_map] at this
  by_cases hfn : n ≤ f
  · have HE := Lib.hid (show min (DS.keepN zs f) p = 0 by unfold DS.keepN; rw [List.getD_eq_getElem?_getD, List.getElem?_eq_none (by omega)]; simp)
    have hc : (f : Int) ≥ (n : Int) := by omega
    go_enter Try.func56, Try.ntmps56
    go_wp2_with fail
    go_ret
    rw [HE.out]
    exact ⟨rfl, rfl⟩
  · obtain ⟨b, o, u, rfl, hu, hcell⟩ := hZ.at_ (j := f) (by omega)
    have hgd : zs[f]? = some (zs.getD f 0) := by rw [List.getD_eq_getElem?_getD, List.getElem?_eq_getElem (show f < zs.length by omega)]; rfl
    rw [List.getElem?_map, hgd] at hu
    obtain rfl := Option.some.inj hu
    have hmem : zs.getD f 0 ∈ zs := List.mem_of_getElem? hgd
    have hr := hz _ hmem
    have HE := Lib.hid (show ((min (DS.keepN zs f) p : Nat) : Int) = max 0 (min (zs.getD f 0) (p : Int)) by unfold DS.keepN; omega)
    generalize zs.getD f 0 = y at *
    have hc : ¬ (f : Int) ≥ (n : Int) := by omega
    have hlt : (f : Int) < (n : Int) := by omega
    have h0 : (0 : Int) ≤ (f : Int) := by omega
    clear hgd hmem hz hZ
    rcases Int.lt_or_le (p : Int) y with hpy | hpy <;> rcases Int.lt_or_le 0 y with hy | hy <;> rcases Int.lt_or_le 0 (p : Int) with hp0 | hp0
    all_goals
      go_enter Try.func56, Try.ntmps56
      go_wp2_with fail
    all_goals
      go_ret
      refine ⟨?_, rfl⟩
      rw [HE.out]
      exact congrArg (fun t => Ending.returned (Value.int .i64 t)) (by omega)
set_option maxRecDepth 100000 in
/-- The first n bytes of any slice, in memory of their own. -/
theorem own_any (A : Option Addr) (k c n : Nat) (l : List Int) (B : Nat) (w : World) (hR : Rd w B A k l) (hn : n ≤ k) (hk : k ≤ c) (hm : k ≤ 1099511627776) (hcm : c ≤ maxLen) :
    Calls Try.prog 57 #[.slice A k c, .int .i64 n] w (RetL 5 w n (l.take n)) := by
  have hl := hR.1
  by_cases h0 : n = 0
  · subst h0
    go_enter Try.func57, Try.ntmps57
    go_wp2_with fail
    go_ret
    exact ⟨none, 0, rfl, by simp, by rw [List.take_zero]; exact Own.nil _ _ _, Below.refl _ _⟩
  · have hne : ((n : Int) == 0) = false := by simp; omega
    have hlen : (l.take n).length = n := by rw [List.length_take]; omega
    have hn0 : (0 : Int) ≤ (n : Int) := by omega
    have hnc : (n : Int) ≤ (c : Int) := by omega
    go_enter Try.func57, Try.ntmps57
    go_wp2_with fail
    go_still_tail 5, (by kernel_rfl)
    change wpList _ _ _ _ _ w.drew
    have hR1 : Rd w.drew B A n (l.take n) := hR.upto hn
    have hR0 : Rd w.drew B A 0 [] := Rd.nil _ _ _
    go_wp2_with (at_builtin; with_reducible refine wpList_append_full rfl (.tmp 8) (.tmp 11) 35 rfl 5 Try.underlying35 bytes.info5 A 0 B [] rfl hR0 B A n c (l.take n) rfl hR1 (by omega) (by omega) ?_)
    intro A' c' w' hO hB
    go_wp2_with fail
    (try rw [Nat.zero_add])
    go_ret
    exact ⟨A', c', rfl, hlen, by simpa using hO, ⟨hB.os, hB.tape, hB.output, hB.size, hB.block⟩⟩
/-- What is told ahead of a step, and what a step leaves. -/
def DS.stE (S : DS) (f : Int) (n : Nat) : Int := if S.may f ≠ 0 then S.may f else if S.full f n then 8 else S.stepE
def DS.stS (S : DS) (f : Int) (n : Nat) : DS := if S.may f ≠ 0 then S else if S.full f n then S else S.step
theorem may_ok {S : DS} {f : Int} (h : S.may f = 0) : f = 0 ∨ f = 1 := by
  unfold DS.may at h
  split at h
  · omega
  · split at h
    · assumption
    · omega
theorem below_of_set {w w' : World} {a : Nat} (hb : Below w.heap.size w w') (ha : a < w.heap.size) (i : Nat) (u : Value) : w.grownBy (w'.setCell ⟨a, i, none⟩ u) (some a) :=
  ⟨hb.os, hb.tape, hb.output, by show w.heap.size ≤ (w'.setCell _ _).heap.size; simp [World.setCell]; exact hb.size, fun k hk hne => (Below.heap_setCell w' ⟨a, i, none⟩ u k (by simpa using hne)).trans (hb.block k hk)⟩
theorem grown_more {w w' : World} {a : Nat} (hb : w.grownBy w' (some a)) (i : Nat) (u : Value) : w.grownBy (w'.setCell ⟨a, i, none⟩ u) (some a) :=
  ⟨hb.os, hb.tape, hb.output, by show w.heap.size ≤ (w'.setCell _ _).heap.size; simp [World.setCell]; exact hb.size, fun k hk hne => (Below.heap_setCell w' ⟨a, i, none⟩ u k (by simpa using hne)).trans (hb.block k hk hne)⟩
set_option maxRecDepth 100000 in
set_option maxHeartbeats 1000000 in
theorem step_any (a : Nat) (S : DS) (m : Nat) (z : Int) (xa xb : Value) (f : Int) (n : Nat) (w : World) (h : IsD w a S m z xa xb) (hS : S.Good) (hs : S.stepped ≤ 1000000) (hn : n ≤ 1099511627776) :
    Calls Try.prog 58 #[.pointer (some ⟨a, 0, none⟩), .int .i64 f, .int .i64 n] w fun e w' => e = .returned (.int .i64 (DS.stE S f n)) ∧ (∃ z', IsD w' a (DS.stS S f n) m z' xa xb) ∧ w.grownBy w' (some a) := by
  have C1 := Lib.hid (check_any a S m z xa xb f w h)
  have HI := Lib.hid h
  by_cases hm : S.may f = 0
  · have hf := may_ok hm
    rw [hm] at C1
    obtain ⟨A, c, hv, hc1, hc2, hpk, hO⟩ := file_shape h hf
    have hl := fun (w' : World) (hb : Below w.heap.size w w') => run_look (h.below hb).map under_map Try.underlying3 hf
    rw [hv] at hl
    unfold fileV at hl
    have hfd := field0
    have hlen : (S.file f).length ≤ 4194304 := by unfold DS.file; split; exact hS.na; exact hS.nb
    generalize hL : (S.file f).length = L at *
    by_cases hfull : 4194304 - (L : Int) < n
    · have hfl : S.full f n := by unfold DS.full; rw [hL]; exact hfull
      have HE := Lib.hid (show DS.stE S f n = 8 by unfold DS.stE; rw [if_neg (by omega), if_pos hfl])
      have HS := Lib.hid (show DS.stS S f n = S by unfold DS.stS; rw [if_neg (by omega), if_pos hfl])
      clear hm hO hv hpk hfl h
      go_enter Try.func58, Try.ntmps58
      go_wp2_with fail
      refine C1.out.mono ?_
      rintro e w1 ⟨rfl, hB⟩
      have h1 := HI.out.below hB
      have hl1 := hl w1 hB
      have c0 := h1.c0
      have H1 := Lib.hid h1
      clear hl h1
      go_wp2_with fail
      go_ret
      rw [HE.out, HS.out]
      exact ⟨rfl, ⟨z, H1.out⟩, hB.os, hB.tape, hB.output, hB.size, fun k hk _ => hB.block k hk⟩
    · have hnf : ¬ S.full f n := by unfold DS.full; rw [hL]; exact hfull
      have HS := Lib.hid (show DS.stS S f n = S.step by unfold DS.stS; rw [if_neg (by omega), if_neg hnf])
      have hwf := h.wf
      have hstp : S.stepped ≤ 1000000 := hs
      rcases Int.lt_trichotomy S.arms 0 with ha | ha | ha
      · have hz : z < 0 := by rcases h.arms with ⟨h1, h2⟩ | ⟨h1, h2⟩ <;> omega
        have hA1 : S.arms = -1 := by rcases h.arms with ⟨h1, h2⟩ | ⟨h1, h2⟩ <;> omega
        have HE := Lib.hid (show DS.stE S f n = 0 by unfold DS.stE; rw [if_neg (by omega), if_neg hnf]; unfold DS.stepE; rw [if_neg (by omega)])
        have HT := Lib.hid (show S.step = { S with stepped := S.stepped + 1 } by unfold DS.step; rw [if_neg (by omega), if_neg (by omega)])
        have hz0 : (z == 0) = false := by simp; omega
        have hz1 : ¬ z > 0 := by omega
        clear hm hO hv hpk hnf h
        go_enter Try.func58, Try.ntmps58
        go_wp2_with fail
        refine C1.out.mono ?_
        rintro e w1 ⟨rfl, hB⟩
        have h1 := HI.out.below hB
        have hl1 := hl w1 hB
        have c0 := h1.c0
        have c2 := h1.c2
        have c4 := h1.c4
        have hfr := fun i => h1.blk.frozen i
        have H1 := Lib.hid h1
        have hlt := Lib.hid HI.out.blk.lt
        clear hl h1
        go_wp2_with fail
        go_ret
        rw [HE.out, HS.out, HT.out]
        refine ⟨rfl, ⟨z, ?_⟩, below_of_set hB hlt.out _ _⟩
        exact H1.out.set 4 _ (by simp [cellsD]) rfl rfl rfl rfl (.inr ⟨hz, hA1⟩) hwf
      · have hz : z = 0 := by rcases h.arms with ⟨h1, h2⟩ | ⟨h1, h2⟩ <;> omega
        subst hz
        have HE := Lib.hid (show DS.stE S f n = 6 by unfold DS.stE; rw [if_neg (by omega), if_neg hnf]; unfold DS.stepE; rw [if_pos ha])
        have HT := Lib.hid (show S.step = { S with off := true } by unfold DS.step; rw [if_pos ha])
        clear hm hO hv hpk hnf h
        go_enter Try.func58, Try.ntmps58
        go_wp2_with fail
        refine C1.out.mono ?_
        rintro e w1 ⟨rfl, hB⟩
        have h1 := HI.out.below hB
        have hl1 := hl w1 hB
        have c0 := h1.c0
        have c2 := h1.c2
        have c1 := h1.c1
        have hfr := fun i => h1.blk.frozen i
        have H1 := Lib.hid h1
        have hlt := Lib.hid HI.out.blk.lt
        clear hl h1
        go_wp2_with fail
        go_ret
        rw [HE.out, HS.out, HT.out]
        refine ⟨rfl, ⟨0, ?_⟩, below_of_set hB hlt.out _ _⟩
        exact H1.out.set 1 _ (by simp [cellsD]) rfl rfl rfl rfl (.inl ⟨by omega, ha⟩) hwf
      · have hz : S.arms = z := by rcases h.arms with ⟨h1, h2⟩ | ⟨h1, h2⟩ <;> omega
        have HE := Lib.hid (show DS.stE S f n = 0 by unfold DS.stE; rw [if_neg (by omega), if_neg hnf]; unfold DS.stepE; rw [if_neg (by omega)])
        have HT := Lib.hid (show S.step = { S with arms := S.arms - 1, stepped := S.stepped + 1 } by unfold DS.step; rw [if_neg (by omega), if_pos ha])
        have hzp : z > 0 := by omega
        have hz0 : (z == 0) = false := by simp; omega
        clear hm hO hv hpk hnf h
        go_enter Try.func58, Try.ntmps58
        go_wp2_with fail
        refine C1.out.mono ?_
        rintro e w1 ⟨rfl, hB⟩
        have h1 := HI.out.below hB
        have hl1 := hl w1 hB
        have c0 := h1.c0
        have c2 := h1.c2
        have c4 := h1.c4
        have hfr := fun i => h1.blk.frozen i
        have H1 := Lib.hid h1
        have hlt := Lib.hid HI.out.blk.lt
        clear hl h1
        go_wp2_with fail
        go_ret
        rw [HE.out, HS.out, HT.out]
        refine ⟨rfl, ⟨z - 1, ?_⟩, grown_more (below_of_set hB hlt.out _ _) _ _⟩
        exact (H1.out.set (S' := { S with arms := S.arms - 1 }) (z' := z - 1) 2 _ (by simp [cellsD]) rfl rfl rfl rfl (.inl ⟨by omega, by show S.arms - 1 = z - 1; omega⟩) (by omega)).set 4 _ (by simp [cellsD]) rfl rfl rfl rfl (.inl ⟨by omega, by show S.arms - 1 = z - 1; omega⟩) (by omega)
  · have HE := Lib.hid (show DS.stE S f n = S.may f by unfold DS.stE; rw [if_pos hm])
    have HS := Lib.hid (show DS.stS S f n = S by unfold DS.stS; rw [if_pos hm])
    obtain ⟨x, hx⟩ : ∃ x, S.may f = x := ⟨_, rfl⟩
    rw [hx] at hm C1
    have HX := Lib.hid hx
    have hxx : (x != 0) = true := by simpa using hm
    clear hx
    go_enter Try.func58, Try.ntmps58
    go_wp2_with fail
    refine C1.out.mono ?_
    rintro e w1 ⟨rfl, hB⟩
    go_wp2_with fail
    go_ret
    rw [HE.out, HS.out, HX.out]
    exact ⟨rfl, ⟨z, HI.out.below hB⟩, hB.os, hB.tape, hB.output, hB.size, fun k hk _ => hB.block k hk⟩
/-- What was there is as it was, but for the blocks fp; what is the disk's then was its own, or is new. -/
structure Chg (fp fp' : Nat → Prop) (w w' : World) : Prop where
  os : w'.os = w.os
  tape : w'.tape = w.tape
  output : w'.output = w.output
  size : w.heap.size ≤ w'.heap.size
  block : ∀ k, k < w.heap.size → ¬ fp k → w'.heap[k]? = w.heap[k]?
  new : ∀ k, fp' k → fp k ∨ w.heap.size ≤ k
/-- What a call ends in that turns the disk alone. -/
def RetD (w : World) (a : Nat) (fp : Nat → Prop) (S' : DS) (v : Value) (e : Ending) (w' : World) : Prop := ∃ fp', e = .returned v ∧ IsDisk w' a S' fp' ∧ Chg fp fp' w w'

theorem Chg.trans {fp fp' fp'' : Nat → Prop} {w w' w'' : World} (h : Chg fp fp' w w') (h' : Chg fp' fp'' w' w'') : Chg fp fp'' w w'' :=
  ⟨h'.os.trans h.os, h'.tape.trans h.tape, h'.output.trans h.output, Nat.le_trans h.size h'.size,
   fun k hk hn => (h'.block k (Nat.lt_of_lt_of_le hk h.size) (fun hf => by rcases h.new k hf with h1 | h1; exact hn h1; omega)).trans (h.block k hk hn),
   fun k hk => by
    rcases h'.new k hk with h1 | h1
    · exact h.new k h1
    · exact .inr (Nat.le_trans h.size h1)⟩
theorem Chg.of_grown {w w' : World} {a : Nat} {fp : Nat → Prop} (hG : w.grownBy w' (some a)) (ha : fp a) : Chg fp fp w w' :=
  ⟨hG.os, hG.tape, hG.output, hG.size, fun k hk hn => hG.block k hk (fun e => by cases e; exact hn ha), fun k hk => .inl hk⟩
theorem Chg.of_below {w w' : World} {fp : Nat → Prop} (hB : Below w.heap.size w w') : Chg fp fp w w' :=
  ⟨hB.os, hB.tape, hB.output, hB.size, fun k hk _ => hB.block k hk, fun k hk => .inl hk⟩
theorem Chg.rfl_ {w : World} {fp : Nat → Prop} : Chg fp fp w w := ⟨rfl, rfl, rfl, Nat.le_refl _, fun _ _ _ => rfl, fun _ h => .inl h⟩
/-- From w to w' only the map, and the block of u, turned; what is more is new. -/
structure Kept (w w' : World) (m : Nat) (u : Value) : Prop where
  os : w'.os = w.os
  tape : w'.tape = w.tape
  output : w'.output = w.output
  size : w.heap.size ≤ w'.heap.size
  block : ∀ k, k < w.heap.size → k ≠ m → u.ownBlock ≠ some k → w'.heap[k]? = w.heap[k]?
theorem put_file {S : DS} {f : Int} {l : List Int} {d : Nat} (hf : f = 0 ∨ f = 1) : ((S.setFile f l).setLasts f d).arms = S.arms ∧ ((S.setFile f l).setLasts f d).off = S.off ∧ ((S.setFile f l).setLasts f d).powers = S.powers ∧ ((S.setFile f l).setLasts f d).stepped = S.stepped := by
  rcases hf with rfl | rfl <;> exact ⟨rfl, rfl, rfl, rfl⟩
/-- What the map holds for file f is written anew. -/
theorem IsD.put {w w' : World} {a : Nat} {S : DS} {m : Nat} {z : Int} {xa xb : Value} (h : IsD w a S m z xa xb) {f : Int} (hf : f = 0 ∨ f = 1) {v : Value} {d : Nat} {l : List Int} (hK : Kept w w' m (pick f xa xb))
    (hM : IsMap w' m (pick f (fileV v d) (fileV xa S.la)) (pick f (fileV xb S.lb) (fileV v d))) (hv : Own 5 w' 0 v l) (hfresh : ∀ k, v.ownBlock = some k → (pick f xa xb).ownBlock = some k ∨ w.heap.size ≤ k) :
    IsD w' a ((S.setFile f l).setLasts f d) m z (pick f v xa) (pick f xb v) ∧ Chg (fpD a m xa xb) (fpD a m (pick f v xa) (pick f xb v)) w w' := by
  have hal := h.blk.lt
  have ham := h.am
  rcases hf with rfl | rfl
  · simp only [pick, if_true] at hK hM hfresh ⊢
    have hblk : w'.heap[a]? = w.heap[a]? := hK.block a hal ham h.xaa
    refine ⟨⟨?_, hM, hv, ?_, ?_, h.arms, h.wf⟩, hK.os, hK.tape, hK.output, hK.size, ?_, ?_⟩
    · have := h.blk
      unfold Blk at *
      rw [hblk]; exact this
    · exact own_keep h.ob (fun k e => hK.block k (h.ob.lt k e).2 (fun e' => h.xbm (e' ▸ e)) (fun e' => h.apart k e' e))
    · intro k e e'
      rcases hfresh k e with h1 | h1
      · exact h.apart k h1 e'
      · have := (h.ob.lt k e').2; omega
    · intro k hk hn
      exact hK.block k hk (fun e => hn (.inr (.inl e))) (fun e => hn (.inr (.inr (.inl e))))
    · rintro k (rfl | rfl | e | e)
      · exact .inl (.inl rfl)
      · exact .inl (.inr (.inl rfl))
      · rcases hfresh k e with h1 | h1
        · exact .inl (.inr (.inr (.inl h1)))
        · exact .inr h1
      · exact .inl (.inr (.inr (.inr e)))
  · have h10 : ¬ (1 : Int) = 0 := by omega
    simp only [pick, if_neg h10] at hK hM hfresh ⊢
    have hblk : w'.heap[a]? = w.heap[a]? := hK.block a hal ham h.xba
    refine ⟨⟨?_, hM, ?_, hv, ?_, h.arms, h.wf⟩, hK.os, hK.tape, hK.output, hK.size, ?_, ?_⟩
    · have := h.blk
      unfold Blk at *
      rw [hblk]; exact this
    · exact own_keep h.oa (fun k e => hK.block k (h.oa.lt k e).2 (fun e' => h.xam (e' ▸ e)) (fun e' => h.apart k e e'))
    · intro k e e'
      rcases hfresh k e' with h1 | h1
      · exact h.apart k e h1
      · have := (h.oa.lt k e).2; omega
    · intro k hk hn
      exact hK.block k hk (fun e => hn (.inr (.inl e))) (fun e => hn (.inr (.inr (.inr e))))
    · rintro k (rfl | rfl | e | e)
      · exact .inl (.inl rfl)
      · exact .inl (.inr (.inl rfl))
      · exact .inl (.inr (.inr (.inl e)))
      · rcases hfresh k e with h1 | h1
        · exact .inl (.inr (.inr (.inr h1)))
        · exact .inr h1
section
variable {S : DS} {f : Int} {n : Nat}
theorem stE_zero (h : DS.stE S f n = 0) : S.may f = 0 ∧ ¬ S.full f n ∧ ¬ S.arms = 0 := by
  unfold DS.stE at h
  by_cases h1 : S.may f = 0
  · rw [if_neg (by omega)] at h
    by_cases h2 : S.full f n
    · rw [if_pos h2] at h; omega
    · rw [if_neg h2] at h
      refine ⟨h1, h2, fun h3 => ?_⟩
      unfold DS.stepE at h
      rw [if_pos h3] at h; omega
  · rw [if_pos h1] at h; exact absurd h h1
theorem stE_not (h : ¬ DS.stE S f n = 0) : ¬ S.may f = 0 ∨ S.full f n ∨ S.arms = 0 := by
  by_cases h1 : S.may f = 0
  · by_cases h2 : S.full f n
    · exact .inr (.inl h2)
    · by_cases h3 : S.arms = 0
      · exact .inr (.inr h3)
      · exfalso; apply h; unfold DS.stE DS.stepE; rw [if_neg (by omega), if_neg h2, if_neg h3]
  · exact .inl h1
theorem stS_fine (h : DS.stE S f n = 0) : DS.stS S f n = S.step := by
  obtain ⟨h1, h2, h3⟩ := stE_zero h
  unfold DS.stS; rw [if_neg (by omega), if_neg h2]
theorem not_full (hS : S.Good) (f : Int) : ¬ S.full f 0 := by
  unfold DS.full DS.file
  have h1 := hS.na
  have h2 := hS.nb
  split <;> omega
theorem app_e (l : List Int) : S.appE f l = DS.stE S f l.length := rfl
theorem sync_e (hS : S.Good) : S.syncE f = DS.stE S f 0 := by
  unfold DS.syncE DS.stE; rw [if_neg (not_full hS f)]
theorem clear_e (hS : S.Good) : S.clearE f = DS.stE S f 0 := sync_e hS
theorem app_fine {l : List Int} (h : DS.stE S f l.length = 0) : S.appS f l = S.step.setFile f (S.file f ++ l) := by
  obtain ⟨h1, h2, h3⟩ := stE_zero h
  unfold DS.appS; rw [if_neg (by omega), if_neg h2, if_neg h3]
theorem app_not {l : List Int} (h : ¬ DS.stE S f l.length = 0) : S.appS f l = DS.stS S f l.length := by
  unfold DS.appS DS.stS
  by_cases h1 : S.may f = 0
  · by_cases h2 : S.full f l.length
    · simp [h1, h2]
    · rcases stE_not h with h3 | h3 | h3
      · exact absurd h1 h3
      · exact absurd h3 h2
      · simp [h1, h2, h3]
  · simp [h1]
theorem put_self {T : DS} (hf : f = 0 ∨ f = 1) (l : List Int) : (T.setFile f l).setLasts f (T.lasts f) = T.setFile f l := by
  rcases hf with rfl | rfl <;> rfl
theorem put_file_self {T : DS} (hf : f = 0 ∨ f = 1) (d : Nat) : (T.setFile f (T.file f)).setLasts f d = T.setLasts f d := by
  rcases hf with rfl | rfl <;> rfl
theorem step_lasts (S : DS) (f : Int) : S.step.lasts f = S.lasts f := by
  unfold DS.lasts DS.step
  split <;> split <;> rfl
theorem sync_fine (h : DS.stE S f 0 = 0) : S.syncS f = (S.step.setFile f (S.step.file f)).setLasts f (S.step.file f).length := by
  obtain ⟨h1, h2, h3⟩ := stE_zero h
  rw [put_file_self (may_ok h1)]
  unfold DS.syncS; rw [if_neg (by omega), if_neg h3, DS.step_file]
theorem clear_fine (h : DS.stE S f 0 = 0) : S.clearS f = (S.step.setFile f []).setLasts f 0 := by
  obtain ⟨h1, h2, h3⟩ := stE_zero h
  unfold DS.clearS; rw [if_neg (by omega), if_neg h3]
theorem sync_not (hS : S.Good) (h : ¬ DS.stE S f 0 = 0) : S.syncS f = DS.stS S f 0 := by
  unfold DS.syncS DS.stS
  have h2 := not_full hS f
  by_cases h1 : S.may f = 0
  · rcases stE_not h with h3 | h3 | h3
    · exact absurd h1 h3
    · exact absurd h3 h2
    · simp [h1, h2, h3]
  · simp [h1]
theorem clear_not (hS : S.Good) (h : ¬ DS.stE S f 0 = 0) : S.clearS f = DS.stS S f 0 := by
  unfold DS.clearS DS.stS
  have h2 := not_full hS f
  by_cases h1 : S.may f = 0
  · rcases stE_not h with h3 | h3 | h3
    · exact absurd h1 h3
    · exact absurd h3 h2
    · simp [h1, h2, h3]
  · simp [h1]
end
theorem own_not_map {w : World} {b m : Nat} {x va vb : Value} {l : List Int} (h : Own 5 w b x l) (hM : IsMap w m va vb) : x.ownBlock ≠ some m := by
  intro e
  obtain ⟨c, hc⟩ := own_heap h e
  unfold IsMap at hM
  rw [hc] at hM
  simp at hM
theorem own_not_blk {E : TypeId} {w : World} {b g : Nat} {x : Value} {cs : List Value} {l : List Int} (hE : E ≠ 5) (h : Own 5 w b x l) (hB : Blk E w g cs) : x.ownBlock ≠ some g := by
  intro e
  obtain ⟨c, hc⟩ := own_heap h e
  unfold Blk at hB
  rw [hc] at hB
  simp only [Option.some.injEq, Obj.cells.injEq] at hB
  exact hE hB.2.1.symm
theorem cell_grown {w w' : World} {k : Option Nat} (hG : w.grownBy w' k) {g i : Nat} {u : Value} (h : w.cell? ⟨g, i, none⟩ = some u) (hne : k ≠ some g) : w'.cell? ⟨g, i, none⟩ = some u := by
  rw [World.cell?_of_block (a := ⟨g, i, none⟩) (hG.block g (World.block_lt_of_cell? w _ h) (fun e => hne e.symm))]; exact h
theorem app_fine2 {S : DS} {f : Int} {l : List Int} (h : DS.stE S f l.length = 0) : S.appS f l = (S.step.setFile f (S.step.file f ++ l)).setLasts f (S.step.lasts f) := by
  rw [app_fine h, put_self (may_ok (stE_zero h).1), DS.step_file]
end Go.Proofs.Ytafdgibkhefplaa.disk
