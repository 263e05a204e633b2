/- What slices.Insert comes to at versions and at cells, the slice the caller's own, one element put in. Conditions: those that each theorem names. -/
import Derived.Test.YtlkhmpfdajefiaaKitI
import Derived.Test.YtlkhmpfdajefiaaJoin1
import Derived.Shelf.RegionOpenPlain
import Derived.Lib.Walk
import Derived.Lib.SliceRun
import Derived.BigQuiet
import Derived.Deep.RegionHeld3
namespace Go.Proofs.Ytlkhmpfdajefiaa.ins
open Go Go.RowKit Go.Proofs.Ytlkhmpfdajefiaa.kit Go.Proofs.Ytlkhmpfdajefiaa.nums Go.Proofs.Ytlkhmpfdajefiaa.st Go.Proofs.Ytlkhmpfdajefiaa.mv
set_option linter.unusedVariables false

theorem own_before {w w' : World} {base : Nat} {e : TypeId} {size : Nat} {v : Value} {n : Nat} {xs : List Value} (h : w.ownsRow base e size v n xs) (hb : base ≤ w.heap.size) (hg : w.grownBy w' v.ownBlock) : Below base w w' :=
  (Below.refl base w).grown hg hb (fun q hq => (h.lt q hq).1)
section
variable (A : Option Addr) (n c i : Nat) (xs us : List Value) (w : World) (base vb : Nat)
/-- What the call ends in. -/
def RetinsV (e : Ending) (w' : World) : Prop := ∃ A' c', e = .returned (.slice A' (n + 1) c') ∧ w'.ownsRow base 47 4 (.slice A' (n + 1) c') (n + 1) (xs.take (i * 4) ++ us ++ xs.drop (i * 4)) ∧ Below base w w' ∧ w.grownBy w' (Value.ownBlock (.slice A n c))
set_option maxRecDepth 100000 in
set_option maxHeartbeats 4000000 in
theorem insV_end (hown : w.ownsRow base 47 4 (.slice A n c) n xs) (hu : us.length = 4) (h1 : ∀ u ∈ us, u.oneCell' = true) (hU : Blk 47 w vb us) (hb : n ≤ 1000000) (hbase : base ≤ w.heap.size) :
    Calls Try.prog 54 #[.slice A n c, .int .i64 n, .slice (some ⟨vb, 0, none⟩) 1 1] w (RetinsV A n c n xs us w base) := by
  have HL : Hid (RetinsV A n c n xs us w base = fun e w' => ∃ A' c', e = .returned (.slice A' (n + 1) c') ∧ w'.ownsRow base 47 4 (.slice A' (n + 1) c') (n + 1) (xs ++ us) ∧ Below base w w' ∧ w.grownBy w' (Value.ownBlock (.slice A n c))) := by
    funext e w'
    unfold RetinsV
    rw [List.take_of_length_le (by rw [hown.1]; exact Nat.le_refl _), List.drop_of_length_le (by rw [hown.1]; exact Nat.le_refl _), List.append_nil]
  rw [HL.out]
  have HR : RdK w w.heap.size (some ⟨vb, 0, none⟩) 1 4 us := ⟨by rw [hu], fun _ => ⟨vb, 0, rfl, hU.lt, fun j u hj => by rw [Nat.zero_add, hU.cell j]; exact hj⟩⟩
  have hnc : n ≤ c ∧ c ≤ maxLen := by
    rcases hown.2 with ⟨hv, h0⟩ | ⟨g, cap, cur, hv, hbg, hg, hnc, hcm, hcs, htake⟩
    · simp only [Value.slice.injEq] at hv; obtain ⟨_, rfl, rfl⟩ := hv; exact ⟨Nat.le_refl _, Nat.zero_le _⟩
    · simp only [Value.slice.injEq] at hv; obtain ⟨_, _, rfl⟩ := hv; exact ⟨hnc, hcm⟩
  obtain ⟨hn1, hn2⟩ := hnc
  unfold maxLen at hn2
  have hown' := Lib.hid hown
  clear hown HL hU
  by_cases hcn : c = n
  · subst hcn
    go_enter Try.func54, Try.ntmps54
    go_wp2_with (at_builtin; with_reducible refine wpList_append_k rfl (.tmp 23) (.tmp 24) 43 rfl base 47 _ 4 40 Try.underlying43 infoVr rfl (by omega) A c c xs rfl hown'.out w.heap.size (some ⟨vb, 0, none⟩) 1 1 us rfl HR h1 ?hb1 ?hb2 hbase ?_)
    case hb1 => omega
    case hb2 => unfold maxLen; omega
    intro A' c' w' hO hB hG
    have HO := Lib.hid hO
    clear hO
    go_wp2_with fail
    go_ret
    exact ⟨A', c', rfl, HO.out, hB, hG⟩
  · have hcn' : ¬ c = n := hcn
    go_enter Try.func54, Try.ntmps54
    go_wp2_with (at_builtin; with_reducible refine wpList_append_k rfl (.tmp 23) (.tmp 24) 43 rfl base 47 _ 4 40 Try.underlying43 infoVr rfl (by omega) A n c xs rfl hown'.out w.heap.size (some ⟨vb, 0, none⟩) 1 1 us rfl HR h1 ?hb1 ?hb2 hbase ?_)
    case hb1 => omega
    case hb2 => unfold maxLen; omega
    intro A' c' w' hO hB hG
    have HO := Lib.hid hO
    clear hO
    go_wp2_with fail
    go_ret
    exact ⟨A', c', rfl, HO.out, hB, hG⟩
end
section
variable (g n c i : Nat) (xs us : List Value) (cur : Array Value) (w : World) (base vb : Nat)
theorem insV_own (hg : w.heap[g]? = some (.cells cur 47 (0, 0))) (hbg : base ≤ g) (hnc : n ≤ c) (hcm : c ≤ maxLen) (hcs : cur.size = c * 4) (htake : cur.toList.take (n * 4) = xs) (hxl : xs.length = n * 4) : w.ownsRow base 47 4 (.slice (some ⟨g, 0, none⟩) n c) n xs :=
  ⟨hxl, .inr ⟨g, c, cur, rfl, hbg, hg, hnc, hcm, hcs, htake⟩⟩
set_option maxRecDepth 100000 in
set_option maxHeartbeats 4000000 in
theorem insV_room (hi : i < n) (hg : w.heap[g]? = some (.cells cur 47 (0, 0))) (hbg : base ≤ g) (hcm : c ≤ maxLen) (hcs : cur.size = c * 4) (htake : cur.toList.take (n * 4) = xs) (hxl : xs.length = n * 4) (h1x : ∀ u ∈ xs, u.oneCell' = true) (hu : us.length = 4) (h1 : ∀ u ∈ us, u.oneCell' = true) (hU : Blk 47 w vb us) (hne : vb ≠ g) (hb : n ≤ 1000000) (hbase : base ≤ w.heap.size) (hroom : n + 1 ≤ c) :
    Calls Try.prog 54 #[.slice (some ⟨g, 0, none⟩) n c, .int .i64 i, .slice (some ⟨vb, 0, none⟩) 1 1] w (RetinsV (some ⟨g, 0, none⟩) n c i xs us w base) := by
  obtain ⟨i0, hi0, hz0, hzs, hzb⟩ := info_parts infoVr
  have hsz : ∀ w, (Go.sizeOf 47).run Try.prog w = .ok 4 w := fun w => by simp [sizeOf, typeInfo, hi0, hzs]
  have hcell : ∀ (wq : World), wq.heap[g]? = some (.cells cur 47 (0, 0)) → ∀ j u, xs[j]? = some u → wq.cell? ⟨g, j, none⟩ = some u := fun wq hq j u hj => by
    rw [cell_of_row wq g j cur 47 (0, 0) hq, ← Array.getElem?_toList]
    rw [← htake, List.getElem?_take] at hj
    split at hj
    · exact hj
    · cases hj
  have hdl : (xs.drop (i * 4)).length = (n - i) * 4 := by rw [List.length_drop, hxl, Nat.sub_mul]
  have hdr : w.drew.heap[g]? = some (.cells cur 47 (0, 0)) := hg
  obtain ⟨cur1, hcur1⟩ : ∃ cur1, cur1 = laidAt cur ((i + 1) * 4) (xs.drop (i * 4)) := ⟨_, rfl⟩
  have hfit1 : (i + 1) * 4 + (xs.drop (i * 4)).length ≤ cur.size := by rw [hdl, hcs]; omega
  have hs1 : cur1.size = cur.size := by rw [hcur1]; exact laidAt_size hfit1
  obtain ⟨W1, hW1⟩ : ∃ W1, W1 = w.drew.setRow g cur1 := ⟨_, rfl⟩
  have hg1 : W1.heap[g]? = some (.cells cur1 47 (0, 0)) := by rw [hW1]; exact setRow_heap w.drew g cur cur1 47 (0, 0) hdr
  have hU1 : Blk 47 W1 vb us := by rw [hW1]; unfold Blk; rw [setRow_other w.drew g vb cur1 hne]; exact hU
  obtain ⟨cur2, hcur2⟩ : ∃ cur2, cur2 = laidAt cur1 (i * 4) us := ⟨_, rfl⟩
  have hfit2 : i * 4 + us.length ≤ cur1.size := by rw [hs1, hcs, hu]; omega
  have hs2 : cur2.size = cur.size := by rw [hcur2, laidAt_size hfit2, hs1]
  obtain ⟨W2, hW2⟩ : ∃ W2, W2 = W1.setRow g cur2 := ⟨_, rfl⟩
  have hg2 : W2.heap[g]? = some (.cells cur2 47 (0, 0)) := by rw [hW2]; exact setRow_heap W1 g cur1 cur2 47 (0, 0) hg1
  have htk : cur2.toList.take ((n + 1) * 4) = xs.take (i * 4) ++ us ++ xs.drop (i * 4) := by
    rw [hcur2, hcur1]
    unfold laidAt
    simp only []
    rw [show (i + 1) * 4 = i * 4 + 4 by omega, show (n + 1) * 4 = n * 4 + 4 by omega]
    exact laid_two htake hxl (by omega) hu (by rw [Array.length_toList, hcs]; omega)
  have HF : Hid (W2.ownsRow base 47 4 (.slice (some ⟨g, 0, none⟩) (n + 1) c) (n + 1) (xs.take (i * 4) ++ us ++ xs.drop (i * 4)) ∧ w.grownBy W2 (some g)) :=
    ⟨insV_own g (n + 1) c _ cur2 W2 base hg2 hbg hroom hcm (by rw [hs2, hcs]) htk (by simp only [List.length_append, List.length_take, hdl, hu, hxl]; omega), ⟨by rw [hW2, hW1]; rfl, by rw [hW2, hW1]; rfl, by rw [hW2, hW1]; rfl, by rw [hW2, hW1]; simp [World.setRow], fun q _ hq => by
      have hqg : q ≠ g := fun e => hq (by rw [e])
      rw [hW2, setRow_other W1 g q cur2 hqg, hW1, setRow_other w.drew g q cur1 hqg]
      rfl⟩⟩
  have HRet : Hid (∀ e, e = Ending.returned (.slice (some ⟨g, 0, none⟩) (n + 1) c) → RetinsV (some ⟨g, 0, none⟩) n c i xs us w base e W2) := fun e he => ⟨_, c, he, HF.out.1, own_before (insV_own g n c xs cur w base hg hbg (by omega) hcm hcs htake hxl) hbase HF.out.2, HF.out.2⟩
  have hcp1 : ∀ ty dc sc, (Builtin.copy_ #[43, 43] ty #[.slice (some ⟨g, (i + 1) * 4, none⟩) (n - i) dc, .slice (some ⟨g, i * 4, none⟩) (n + 1 - i) sc]).run Try.prog w.drew = .ok (goInt ((n - i : Nat) : Int)) W1 := fun ty dc sc => by
    rw [hW1, hcur1]
    exact run_copy_k w.drew 43 ty 47 _ 4 40 Try.underlying43 infoVr g ((i + 1) * 4) (n - i) dc cur 47 hdr ⟨g, i * 4, none⟩ (n + 1 - i) sc (n - i) (xs.drop (i * 4)) (Nat.min_eq_right (by omega)) hdl (fun j v hj => by rw [Addr.add_lit]; exact hcell w.drew hdr _ v (by rw [List.getElem?_drop] at hj; exact hj)) hfit1 (fun v hv => h1x v (List.mem_of_mem_drop hv))
  have hcp2 : ∀ ty dc, (Builtin.copy_ #[43, 43] ty #[.slice (some ⟨g, i * 4, none⟩) (n + 1 - i) dc, .slice (some ⟨vb, 0, none⟩) 1 1]).run Try.prog W1 = .ok (goInt 1) W2 := fun ty dc => by
    rw [hW2, hcur2]
    exact run_copy_k W1 43 ty 47 _ 4 40 Try.underlying43 infoVr g (i * 4) (n + 1 - i) dc cur1 47 hg1 ⟨vb, 0, none⟩ 1 1 1 us (Nat.min_eq_left (by omega)) (by rw [hu]) (fun j v hj => by rw [Addr.add_lit, Nat.zero_add, hU1.cell j]; exact hj) hfit2 h1
  have hov : ∀ lb cb, (callFunc 59 #[.slice (some ⟨vb, 0, none⟩) 1 1, .slice (some ⟨g, (i + 1) * 4, none⟩) lb cb]).run Try.prog w = .ok (.value (.bool false)) w := fun lb cb => by
    rw [run_callFunc_extern Try.func59 (by kernel_rfl) (by kernel_rfl) (by kernel_rfl) (e := Extern.SlicesOverlaps.overlaps #[43, 43] #[4]) (by kernel_rfl),
      Lib.run_overlaps_apart w 43 4 47 Try.underlying43 4 hsz ⟨vb, 0, none⟩ ⟨g, (i + 1) * 4, none⟩ 1 1 lb cb hne 47 47 us.length cur.size (by unfold Blk at hU; simp [World.shape?, hU]) (by simp [World.shape?, hg]) (by rw [hcs]; omega) (hU.frozen 0) (hU.frozen _)]
    rfl
  have hz2 : ¬ ((i : Int) = (n : Int)) := by omega
  have hw1 : IntKind.i64.wrap ((i : Int) + 1) = (i : Int) + 1 := by rw [IntKind.wrap_i64]; omega
  have hb2 : ¬ (c = i + 1) := by omega
  have hb4 : ¬ (c = i) := by omega
  have hc0 : ¬ (c = 0) := by omega
  have hin : i ≤ n := by omega
  have hb1 : (0 : Int) ≤ (i : Int) + 1 := by omega
  have hb3 : (i : Int) ≤ (n : Int) + 1 := by omega
  unfold maxLen at hcm
  clear hcell hdl hdr hcur1 hfit1 hs1 hW1 hg1 hU1 hcur2 hfit2 hs2 hW2 hg2 htk HF hsz hi0 hz0 hzs hzb htake hxl h1x hg hcs h1 hU hu
  go_enter Try.func54, Try.ntmps54
  go_wp2_with (simp only [hov])
  have p0 : True := trivial
  refine wp_region_held_drew (S := fun _ => True) (by kernel_rfl) trivial (fun hHeld => ?_)
  refine tk 0 { dst := some 69, op := .move (.tmp 0), type := 43, pos := "slices.go:178", after := #[], guard := none } _ ?_
  try simp only [Act.put, List.setIfInBounds_toArray, List.set_cons_zero, List.set_cons_succ]
  refine tk 1 { dst := some 70, op := .move (.tmp 1), type := 3, pos := "slices.go:178", after := #[], guard := none } _ ?_
  try simp only [Act.put, List.setIfInBounds_toArray, List.set_cons_zero, List.set_cons_succ]
  refine tk 2 { dst := some 71, op := .move (.tmp 7), type := 3, pos := "slices.go:178", after := #[], guard := none } _ ?_
  try simp only [Act.put, List.setIfInBounds_toArray, List.set_cons_zero, List.set_cons_succ]
  refine tk 3 { dst := some 72, op := .binOp .add 3 (.tmp 70) (.tmp 71) 3, type := 3, pos := "slices.go:178", after := #[{ on := 1, ground := .data }, { on := 2, ground := .data }], guard := none } _ ?_
  try simp only [Act.put, List.setIfInBounds_toArray, List.set_cons_zero, List.set_cons_succ]
  refine tk 4 { dst := some 73, op := .slice 43 (.tmp 69) (some (.tmp 72)) none none, type := 43, pos := "slices.go:178", after := #[{ on := 0, ground := .data }, { on := 3, ground := .data }], guard := none } _ ?_
  try simp only [Act.put, List.setIfInBounds_toArray, List.set_cons_zero, List.set_cons_succ]
  refine tk 5 { dst := some 74, op := .move (.tmp 0), type := 43, pos := "slices.go:178", after := #[], guard := none } _ ?_
  try simp only [Act.put, List.setIfInBounds_toArray, List.set_cons_zero, List.set_cons_succ]
  refine tk 6 { dst := some 75, op := .move (.tmp 1), type := 3, pos := "slices.go:178", after := #[], guard := none } _ ?_
  try simp only [Act.put, List.setIfInBounds_toArray, List.set_cons_zero, List.set_cons_succ]
  refine tk 7 { dst := some 76, op := .slice 43 (.tmp 74) (some (.tmp 75)) none none, type := 43, pos := "slices.go:178", after := #[{ on := 5, ground := .data }, { on := 6, ground := .data }], guard := none } _ ?_
  try simp only [Act.put, List.setIfInBounds_toArray, List.set_cons_zero, List.set_cons_succ]
  refine wpAnyH_ready (rs := [8]) (by kernel_rfl) (by simp) ?_
  refine AllReadyH.cons (o := { dst := some 77, op := .call { callee := .builtin .copy, args := #[.tmp 73, .tmp 76], argTypes := #[43, 43] }, type := 3, pos := "slices.go:178", after := #[{ on := 4, ground := .data }, { on := 7, ground := .data }], guard := none }) rfl (fun KQ hKQ => ?_) AllReadyH.nil
  refine step_copy_run rfl _ _ 43 43 rfl _ _ rfl rfl (hcp1 _ _ _) ?_
  refine hKQ.out _ _ ?s_8 (fun hHeld8 => ?_)
  case s_8 => trivial
  clear hKQ KQ
  try simp only [Act.put, List.setIfInBounds_toArray, List.set_cons_zero, List.set_cons_succ]
  refine wpAnyH_done (by kernel_rfl) ?_ _
  go_wp2_with (at_builtin; refine wpList_copy_run rfl _ _ 43 TS rfl _ _ rfl rfl (hcp2 _ _) ?_)
  go_ret
  exact HRet.out _ rfl
set_option maxRecDepth 100000 in
set_option maxHeartbeats 4000000 in
theorem insV_grow (hi : i < n) (hg : w.heap[g]? = some (.cells cur 47 (0, 0))) (hbg : base ≤ g) (hnc : n ≤ c) (hcm : c ≤ maxLen) (hcs : cur.size = c * 4) (htake : cur.toList.take (n * 4) = xs) (hxl : xs.length = n * 4) (h1x : ∀ u ∈ xs, u.oneCell' = true) (hu : us.length = 4) (h1 : ∀ u ∈ us, u.oneCell' = true) (hU : Blk 47 w vb us) (hb : n ≤ 1000000) (hbase : base ≤ w.heap.size) (hroom : c < n + 1) :
    Calls Try.prog 54 #[.slice (some ⟨g, 0, none⟩) n c, .int .i64 i, .slice (some ⟨vb, 0, none⟩) 1 1] w (RetinsV (some ⟨g, 0, none⟩) n c i xs us w base) := by
  obtain ⟨i0, hi0, hz0, hzs, hzb⟩ := info_parts infoVr
  have hglt : g < w.heap.size := lt_of_block hg
  have hcell : ∀ (wq : World), wq.heap[g]? = some (.cells cur 47 (0, 0)) → ∀ j u, xs[j]? = some u → wq.cell? ⟨g, j, none⟩ = some u := fun wq hq j u hj => by
    rw [cell_of_row wq g j cur 47 (0, 0) hq, ← Array.getElem?_toList]
    rw [← htake, List.getElem?_take] at hj
    split at hj
    · exact hj
    · cases hj
  have hdl : (xs.drop (i * 4)).length = (n - i) * 4 := by rw [List.length_drop, hxl, Nat.sub_mul]
  have hdr : w.drew.heap[g]? = some (.cells cur 47 (0, 0)) := hg
  have hkk : (n : Int) + 1 - (i : Int) = ((n + 1 - i : Nat) : Int) := by omega
  have hik : i + (n + 1 - i) = n + 1 := by omega
  have hold : (Builtin.firstCells i0.size i (.slice (some ⟨g, 0, none⟩) i c)).run Try.prog w.drew = .ok (xs.take (i * 4)).toArray w.drew := by
    rw [hzs]
    have := run_loadCells_list (P := Try.prog) w.drew ⟨g, 0, none⟩ (xs.take (i * 4)) (fun j v hj => by
      rw [Addr.add_lit, Nat.zero_add]
      rw [List.getElem?_take] at hj
      split at hj
      · exact hcell w.drew hdr j v hj
      · cases hj)
    rw [List.length_take, hxl, Nat.min_eq_left (Nat.mul_le_mul_right _ (Nat.le_of_lt hi))] at this
    exact this
  obtain ⟨G, hG⟩ : ∃ G, G = grownCap w (n + 1) c 47 := ⟨_, rfl⟩
  have hGn : n + 1 ≤ G := by rw [hG]; exact grownCap_ge w _ _ _
  have hG63 : G ≤ maxLen := by rw [hG]; exact grownCap_le_maxLen w (n + 1) c 47 (by unfold maxLen; omega)
  obtain ⟨z, hz⟩ : ∃ z, i0.zero = some z ∧ z.cells.size = 4 := ⟨_, hz0, rfl⟩
  obtain ⟨ROW, hROW⟩ : ∃ ROW : Array Value, ROW = (xs.take (i * 4)).toArray ++ Builtin.zeroCells z.cells (n + 1 - i) ++ Builtin.zeroCells z.cells (G - (n + 1)) := ⟨_, rfl⟩
  have hRs : ROW.size = G * 4 := by
    rw [hROW]
    simp only [Array.size_append, List.size_toArray, List.length_take, size_zeroCells, hz.2, hxl]
    omega
  have hRt : ROW.toList.take (i * 4) = xs.take (i * 4) := by
    rw [hROW]
    simp only [Array.toList_append, List.append_assoc]
    rw [List.take_append_of_le_length (by rw [List.length_take, hxl]; omega)]
    exact List.take_of_length_le (by rw [List.length_take]; omega)
  obtain ⟨W1, hW1⟩ : ∃ W1, W1 = w.drew.alloc (.cells ROW 47) := ⟨_, rfl⟩
  have hrz : ∀ ty, (Builtin.append_ #[43, 3] ty #[.slice (some ⟨g, 0, none⟩) i c, .int .i64 ((n : Int) + 1 - (i : Int))]).run Try.prog w = .ok (.slice (some ⟨w.heap.size, 0, none⟩) (n + 1) G) W1 := fun ty => by
    have h := Lib.run_append_grow_zeros (P := Try.prog) w 43 3 ty 47 i0 z .i64 .i64 Try.underlying43 Try.underlying3 hi0 hz.1 (some ⟨g, 0, none⟩) i c (xs.take (i * 4)) hold (n + 1 - i) (by omega) (by rw [hzs]; omega) (by omega) (by omega) (by rw [hzb]; omega) (by rw [hzb, hik]; have := nextslicecap_le (need := n + 1) (old := c) (by omega); omega)
    rw [hik, ← hG, ← hROW, ← hW1] at h
    rw [hkk]
    exact h
  obtain ⟨N, hN⟩ : ∃ N, N = w.heap.size := ⟨_, rfl⟩
  have hgN : W1.heap[N]? = some (.cells ROW 47 (0, 0)) := by rw [hW1, hN]; exact heap_alloc_new w.drew _
  have hold1 : ∀ q, q < w.heap.size → W1.heap[q]? = w.heap[q]? := fun q hq => by rw [hW1]; exact heap_alloc_old w.drew _ hq
  have hU1 : Blk 47 W1 vb us := by unfold Blk; rw [hold1 vb hU.lt]; exact hU
  obtain ⟨cur1, hcur1⟩ : ∃ cur1, cur1 = laidAt ROW (i * 4) us := ⟨_, rfl⟩
  have hfit1 : i * 4 + us.length ≤ ROW.size := by rw [hRs, hu]; omega
  have hs1 : cur1.size = ROW.size := by rw [hcur1]; exact laidAt_size hfit1
  obtain ⟨W2, hW2⟩ : ∃ W2, W2 = W1.setRow N cur1 := ⟨_, rfl⟩
  have hg2 : W2.drew.heap[N]? = some (.cells cur1 47 (0, 0)) := by rw [hW2]; exact setRow_heap W1 N ROW cur1 47 (0, 0) hgN
  have hgN2 : g ≠ N := by omega
  have hgg2 : W2.drew.heap[g]? = some (.cells cur 47 (0, 0)) := by rw [hW2]; exact ((setRow_other W1 N g cur1 hgN2).trans (hold1 g hglt)).trans hg
  obtain ⟨cur2, hcur2⟩ : ∃ cur2, cur2 = laidAt cur1 ((i + 1) * 4) (xs.drop (i * 4)) := ⟨_, rfl⟩
  have hfit2 : (i + 1) * 4 + (xs.drop (i * 4)).length ≤ cur1.size := by rw [hs1, hRs, hdl]; omega
  have hs2 : cur2.size = ROW.size := by rw [hcur2, laidAt_size hfit2, hs1]
  obtain ⟨W3, hW3⟩ : ∃ W3, W3 = W2.drew.setRow N cur2 := ⟨_, rfl⟩
  have hg3 : W3.heap[N]? = some (.cells cur2 47 (0, 0)) := by rw [hW3]; exact setRow_heap W2.drew N cur1 cur2 47 (0, 0) hg2
  have htk : cur2.toList.take ((n + 1) * 4) = xs.take (i * 4) ++ us ++ xs.drop (i * 4) := by
    rw [hcur2, hcur1]
    unfold laidAt
    simp only []
    rw [show (i + 1) * 4 = i * 4 + 4 by omega, show (n + 1) * 4 = n * 4 + 4 by omega]
    exact laid_two' hRt hxl (by omega) hu (by rw [Array.length_toList, hRs]; omega)
  have hW3s : W3.heap.size = w.heap.size + 1 := by rw [hW3, hW2, hW1]; simp [World.setRow]
  have HF : Hid (W3.ownsRow base 47 4 (.slice (some ⟨N, 0, none⟩) (n + 1) G) (n + 1) (xs.take (i * 4) ++ us ++ xs.drop (i * 4)) ∧ w.grownBy W3 (some g)) :=
    ⟨insV_own N (n + 1) G _ cur2 W3 base hg3 (by omega) hGn hG63 (by rw [hs2, hRs]) htk (by simp only [List.length_append, List.length_take, hdl, hu, hxl]; omega), ⟨by rw [hW3, hW2, hW1]; rfl, by rw [hW3, hW2, hW1]; rfl, by rw [hW3, hW2, hW1]; rfl, by omega, fun q hq _ => by
      have hqN : q ≠ N := by omega
      rw [hW3, setRow_other W2.drew N q cur2 hqN]
      show W2.heap[q]? = _
      rw [hW2, setRow_other W1 N q cur1 hqN]
      exact hold1 q hq⟩⟩
  have HRet : Hid (∀ e, e = Ending.returned (.slice (some ⟨N, 0, none⟩) (n + 1) G) → RetinsV (some ⟨g, 0, none⟩) n c i xs us w base e W3) := fun e he => ⟨_, G, he, HF.out.1, own_before (insV_own g n c xs cur w base hg hbg hnc hcm hcs htake hxl) hbase HF.out.2, HF.out.2⟩
  have hcp1 : ∀ ty dc, (Builtin.copy_ #[43, 43] ty #[.slice (some ⟨N, i * 4, none⟩) (n + 1 - i) dc, .slice (some ⟨vb, 0, none⟩) 1 1]).run Try.prog W1 = .ok (goInt 1) W2 := fun ty dc => by
    rw [hW2, hcur1]
    exact run_copy_k W1 43 ty 47 _ 4 40 Try.underlying43 infoVr N (i * 4) (n + 1 - i) dc ROW 47 hgN ⟨vb, 0, none⟩ 1 1 1 us (Nat.min_eq_left (by omega)) (by rw [hu]) (fun j v hj => by rw [Addr.add_lit, Nat.zero_add, hU1.cell j]; exact hj) hfit1 h1
  have hcp2 : ∀ ty dc sc, (Builtin.copy_ #[43, 43] ty #[.slice (some ⟨N, (i + 1) * 4, none⟩) (n - i) dc, .slice (some ⟨g, i * 4, none⟩) (n - i) sc]).run Try.prog W2.drew = .ok (goInt ((n - i : Nat) : Int)) W3 := fun ty dc sc => by
    rw [hW3, hcur2]
    exact run_copy_k W2.drew 43 ty 47 _ 4 40 Try.underlying43 infoVr N ((i + 1) * 4) (n - i) dc cur1 47 hg2 ⟨g, i * 4, none⟩ (n - i) sc (n - i) (xs.drop (i * 4)) (Nat.min_eq_left (by omega)) hdl (fun j v hj => by rw [Addr.add_lit]; exact hcell W2.drew hgg2 _ v (by rw [List.getElem?_drop] at hj; exact hj)) hfit2 (fun v hv => h1x v (List.mem_of_mem_drop hv))
  have hz2 : ¬ ((i : Int) = (n : Int)) := by omega
  have hw1 : IntKind.i64.wrap ((i : Int) + 1) = (i : Int) + 1 := by rw [IntKind.wrap_i64]; omega
  have hb2 : ¬ (c = i) := by omega
  have hb4 : ¬ (G = i) := by omega
  have hb5 : ¬ (G = i + 1) := by omega
  have hc0 : ¬ (c = 0) := by omega
  have hin : i ≤ n := by omega
  have hb1 : (0 : Int) ≤ (i : Int) + 1 := by omega
  have hb3 : (i : Int) ≤ (n : Int) + 1 := by omega
  unfold maxLen at hcm hG63
  rw [← hN] at hrz
  clear hcell hdl hdr hcur1 hfit1 hs1 hW1 hgN hold1 hU1 hcur2 hfit2 hs2 hW2 hg2 hgg2 htk HF hi0 hz0 hzs hzb htake hxl h1x hg hcs h1 hU hu hkk hik hold hG hz hROW hRs hRt hW3 hg3 hW3s hglt hgN2 hN
  go_enter Try.func54, Try.ntmps54
  go_wp2_with (first
    | (at_builtin; refine wpList_appendz_run rfl _ _ _ _ rfl _ _ rfl rfl (hrz _) ?_)
    | (at_builtin; refine wpList_copy_run rfl _ _ 43 TS rfl _ _ rfl rfl (hcp1 _ _) ?_))
  have p0 : True := trivial
  refine wp_region_held_drew (S := fun _ => True) (by kernel_rfl) trivial (fun hHeld => ?_)
  refine tk 0 { dst := some 46, op := .move (.tmp 9), type := 43, pos := "slices.go:154", after := #[], guard := none } _ ?_
  try simp only [Act.put, List.setIfInBounds_toArray, List.set_cons_zero, List.set_cons_succ]
  refine tk 1 { dst := some 47, op := .move (.tmp 1), type := 3, pos := "slices.go:154", after := #[], guard := none } _ ?_
  try simp only [Act.put, List.setIfInBounds_toArray, List.set_cons_zero, List.set_cons_succ]
  refine tk 2 { dst := some 48, op := .move (.tmp 7), type := 3, pos := "slices.go:154", after := #[], guard := none } _ ?_
  try simp only [Act.put, List.setIfInBounds_toArray, List.set_cons_zero, List.set_cons_succ]
  refine tk 3 { dst := some 49, op := .binOp .add 3 (.tmp 47) (.tmp 48) 3, type := 3, pos := "slices.go:154", after := #[{ on := 1, ground := .data }, { on := 2, ground := .data }], guard := none } _ ?_
  try simp only [Act.put, List.setIfInBounds_toArray, List.set_cons_zero, List.set_cons_succ]
  refine tk 4 { dst := some 50, op := .slice 43 (.tmp 46) (some (.tmp 49)) none none, type := 43, pos := "slices.go:154", after := #[{ on := 0, ground := .data }, { on := 3, ground := .data }], guard := none } _ ?_
  try simp only [Act.put, List.setIfInBounds_toArray, List.set_cons_zero, List.set_cons_succ]
  refine tk 5 { dst := some 51, op := .move (.tmp 0), type := 43, pos := "slices.go:154", after := #[], guard := none } _ ?_
  try simp only [Act.put, List.setIfInBounds_toArray, List.set_cons_zero, List.set_cons_succ]
  refine tk 6 { dst := some 52, op := .move (.tmp 1), type := 3, pos := "slices.go:154", after := #[], guard := none } _ ?_
  try simp only [Act.put, List.setIfInBounds_toArray, List.set_cons_zero, List.set_cons_succ]
  refine tk 7 { dst := some 53, op := .slice 43 (.tmp 51) (some (.tmp 52)) none none, type := 43, pos := "slices.go:154", after := #[{ on := 5, ground := .data }, { on := 6, ground := .data }], guard := none } _ ?_
  try simp only [Act.put, List.setIfInBounds_toArray, List.set_cons_zero, List.set_cons_succ]
  refine wpAnyH_ready (rs := [8]) (by kernel_rfl) (by simp) ?_
  refine AllReadyH.cons (o := { dst := some 54, op := .call { callee := .builtin .copy, args := #[.tmp 50, .tmp 53], argTypes := #[43, 43] }, type := 3, pos := "slices.go:154", after := #[{ on := 4, ground := .data }, { on := 7, ground := .data }], guard := none }) rfl (fun KQ hKQ => ?_) AllReadyH.nil
  refine step_copy_run rfl _ _ 43 43 rfl _ _ rfl rfl (hcp2 _ _ _) ?_
  refine hKQ.out _ _ ?s_8 (fun hHeld8 => ?_)
  case s_8 => trivial
  clear hKQ KQ
  try simp only [Act.put, List.setIfInBounds_toArray, List.set_cons_zero, List.set_cons_succ]
  refine wpAnyH_done (by kernel_rfl) ?_ _
  go_wp2_with fail
  go_ret
  exact HRet.out _ rfl
end
theorem insV_any (A : Option Addr) (n c i : Nat) (xs us : List Value) (w : World) (base vb : Nat) (hown : w.ownsRow base 47 4 (.slice A n c) n xs) (hi : i ≤ n) (h1x : ∀ u ∈ xs, u.oneCell' = true) (hu : us.length = 4) (h1 : ∀ u ∈ us, u.oneCell' = true) (hU : Blk 47 w vb us) (hne : Value.ownBlock (.slice A n c) ≠ some vb) (hb : n ≤ 1000000) (hbase : base ≤ w.heap.size) :
    Calls Try.prog 54 #[.slice A n c, .int .i64 i, .slice (some ⟨vb, 0, none⟩) 1 1] w (RetinsV A n c i xs us w base) := by
  rcases Nat.lt_or_ge i n with hlt | hge
  · have hxl := hown.1
    rcases hown.2 with ⟨hv, h0⟩ | ⟨g, cap, cur, hv, hbg, hg, hnc, hcm, hcs, htake⟩
    · omega
    · simp only [Value.slice.injEq] at hv
      obtain ⟨rfl, _, rfl⟩ := hv
      rcases Nat.lt_or_ge c (n + 1) with hr | hr
      · exact insV_grow g n c i xs us cur w base vb hlt hg hbg hnc hcm hcs htake hxl h1x hu h1 hU hb hbase hr
      · exact insV_room g n c i xs us cur w base vb hlt hg hbg hcm hcs htake hxl h1x hu h1 hU (fun e => hne (by rw [e]; rfl)) hb hbase hr
  · obtain rfl : i = n := by omega
    exact insV_end A i c xs us w base vb hown hu h1 hU hb hbase
section
variable (A : Option Addr) (n c i : Nat) (xs us : List Value) (w : World) (base vb : Nat)
/-- What the call ends in. -/
def RetinsC (e : Ending) (w' : World) : Prop := ∃ A' c', e = .returned (.slice A' (n + 1) c') ∧ w'.ownsRow base 45 12 (.slice A' (n + 1) c') (n + 1) (xs.take (i * 12) ++ us ++ xs.drop (i * 12)) ∧ Below base w w' ∧ w.grownBy w' (Value.ownBlock (.slice A n c))
set_option maxRecDepth 100000 in
set_option maxHeartbeats 4000000 in
theorem insC_end (hown : w.ownsRow base 45 12 (.slice A n c) n xs) (hu : us.length = 12) (h1 : ∀ u ∈ us, u.oneCell' = true) (hU : Blk 45 w vb us) (hb : n ≤ 1000000) (hbase : base ≤ w.heap.size) :
    Calls Try.prog 48 #[.slice A n c, .int .i64 n, .slice (some ⟨vb, 0, none⟩) 1 1] w (RetinsC A n c n xs us w base) := by
  have HL : Hid (RetinsC A n c n xs us w base = fun e w' => ∃ A' c', e = .returned (.slice A' (n + 1) c') ∧ w'.ownsRow base 45 12 (.slice A' (n + 1) c') (n + 1) (xs ++ us) ∧ Below base w w' ∧ w.grownBy w' (Value.ownBlock (.slice A n c))) := by
    funext e w'
    unfold RetinsC
    rw [List.take_of_length_le (by rw [hown.1]; exact Nat.le_refl _), List.drop_of_length_le (by rw [hown.1]; exact Nat.le_refl _), List.append_nil]
  rw [HL.out]
  have HR : RdK w w.heap.size (some ⟨vb, 0, none⟩) 1 12 us := ⟨by rw [hu], fun _ => ⟨vb, 0, rfl, hU.lt, fun j u hj => by rw [Nat.zero_add, hU.cell j]; exact hj⟩⟩
  have hnc : n ≤ c ∧ c ≤ maxLen := by
    rcases hown.2 with ⟨hv, h0⟩ | ⟨g, cap, cur, hv, hbg, hg, hnc, hcm, hcs, htake⟩
    · simp only [Value.slice.injEq] at hv; obtain ⟨_, rfl, rfl⟩ := hv; exact ⟨Nat.le_refl _, Nat.zero_le _⟩
    · simp only [Value.slice.injEq] at hv; obtain ⟨_, _, rfl⟩ := hv; exact ⟨hnc, hcm⟩
  obtain ⟨hn1, hn2⟩ := hnc
  unfold maxLen at hn2
  have hown' := Lib.hid hown
  clear hown HL hU
  by_cases hcn : c = n
  · subst hcn
    go_enter Try.func48, Try.ntmps48
    go_wp2_with (at_builtin; with_reducible refine wpList_append_k rfl (.tmp 23) (.tmp 24) 31 rfl base 45 _ 12 128 Try.underlying31 infoC rfl (by omega) A c c xs rfl hown'.out w.heap.size (some ⟨vb, 0, none⟩) 1 1 us rfl HR h1 ?hb1 ?hb2 hbase ?_)
    case hb1 => omega
    case hb2 => unfold maxLen; omega
    intro A' c' w' hO hB hG
    have HO := Lib.hid hO
    clear hO
    go_wp2_with fail
    go_ret
    exact ⟨A', c', rfl, HO.out, hB, hG⟩
  · have hcn' : ¬ c = n := hcn
    go_enter Try.func48, Try.ntmps48
    go_wp2_with (at_builtin; with_reducible refine wpList_append_k rfl (.tmp 23) (.tmp 24) 31 rfl base 45 _ 12 128 Try.underlying31 infoC rfl (by omega) A n c xs rfl hown'.out w.heap.size (some ⟨vb, 0, none⟩) 1 1 us rfl HR h1 ?hb1 ?hb2 hbase ?_)
    case hb1 => omega
    case hb2 => unfold maxLen; omega
    intro A' c' w' hO hB hG
    have HO := Lib.hid hO
    clear hO
    go_wp2_with fail
    go_ret
    exact ⟨A', c', rfl, HO.out, hB, hG⟩
end
section
variable (g n c i : Nat) (xs us : List Value) (cur : Array Value) (w : World) (base vb : Nat)
theorem insC_own (hg : w.heap[g]? = some (.cells cur 45 (0, 0))) (hbg : base ≤ g) (hnc : n ≤ c) (hcm : c ≤ maxLen) (hcs : cur.size = c * 12) (htake : cur.toList.take (n * 12) = xs) (hxl : xs.length = n * 12) : w.ownsRow base 45 12 (.slice (some ⟨g, 0, none⟩) n c) n xs :=
  ⟨hxl, .inr ⟨g, c, cur, rfl, hbg, hg, hnc, hcm, hcs, htake⟩⟩
set_option maxRecDepth 100000 in
set_option maxHeartbeats 4000000 in
theorem insC_room (hi : i < n) (hg : w.heap[g]? = some (.cells cur 45 (0, 0))) (hbg : base ≤ g) (hcm : c ≤ maxLen) (hcs : cur.size = c * 12) (htake : cur.toList.take (n * 12) = xs) (hxl : xs.length = n * 12) (h1x : ∀ u ∈ xs, u.oneCell' = true) (hu : us.length = 12) (h1 : ∀ u ∈ us, u.oneCell' = true) (hU : Blk 45 w vb us) (hne : vb ≠ g) (hb : n ≤ 1000000) (hbase : base ≤ w.heap.size) (hroom : n + 1 ≤ c) :
    Calls Try.prog 48 #[.slice (some ⟨g, 0, none⟩) n c, .int .i64 i, .slice (some ⟨vb, 0, none⟩) 1 1] w (RetinsC (some ⟨g, 0, none⟩) n c i xs us w base) := by
  obtain ⟨i0, hi0, hz0, hzs, hzb⟩ := info_parts infoC
  have hsz : ∀ w, (Go.sizeOf 45).run Try.prog w = .ok 12 w := fun w => by simp [sizeOf, typeInfo, hi0, hzs]
  have hcell : ∀ (wq : World), wq.heap[g]? = some (.cells cur 45 (0, 0)) → ∀ j u, xs[j]? = some u → wq.cell? ⟨g, j, none⟩ = some u := fun wq hq j u hj => by
    rw [cell_of_row wq g j cur 45 (0, 0) hq, ← Array.getElem?_toList]
    rw [← htake, List.getElem?_take] at hj
    split at hj
    · exact hj
    · cases hj
  have hdl : (xs.drop (i * 12)).length = (n - i) * 12 := by rw [List.length_drop, hxl, Nat.sub_mul]
  have hdr : w.drew.heap[g]? = some (.cells cur 45 (0, 0)) := hg
  obtain ⟨cur1, hcur1⟩ : ∃ cur1, cur1 = laidAt cur ((i + 1) * 12) (xs.drop (i * 12)) := ⟨_, rfl⟩
  have hfit1 : (i + 1) * 12 + (xs.drop (i * 12)).length ≤ cur.size := by rw [hdl, hcs]; omega
  have hs1 : cur1.size = cur.size := by rw [hcur1]; exact laidAt_size hfit1
  obtain ⟨W1, hW1⟩ : ∃ W1, W1 = w.drew.setRow g cur1 := ⟨_, rfl⟩
  have hg1 : W1.heap[g]? = some (.cells cur1 45 (0, 0)) := by rw [hW1]; exact setRow_heap w.drew g cur cur1 45 (0, 0) hdr
  have hU1 : Blk 45 W1 vb us := by rw [hW1]; unfold Blk; rw [setRow_other w.drew g vb cur1 hne]; exact hU
  obtain ⟨cur2, hcur2⟩ : ∃ cur2, cur2 = laidAt cur1 (i * 12) us := ⟨_, rfl⟩
  have hfit2 : i * 12 + us.length ≤ cur1.size := by rw [hs1, hcs, hu]; omega
  have hs2 : cur2.size = cur.size := by rw [hcur2, laidAt_size hfit2, hs1]
  obtain ⟨W2, hW2⟩ : ∃ W2, W2 = W1.setRow g cur2 := ⟨_, rfl⟩
  have hg2 : W2.heap[g]? = some (.cells cur2 45 (0, 0)) := by rw [hW2]; exact setRow_heap W1 g cur1 cur2 45 (0, 0) hg1
  have htk : cur2.toList.take ((n + 1) * 12) = xs.take (i * 12) ++ us ++ xs.drop (i * 12) := by
    rw [hcur2, hcur1]
    unfold laidAt
    simp only []
    rw [show (i + 1) * 12 = i * 12 + 12 by omega, show (n + 1) * 12 = n * 12 + 12 by omega]
    exact laid_two htake hxl (by omega) hu (by rw [Array.length_toList, hcs]; omega)
  have HF : Hid (W2.ownsRow base 45 12 (.slice (some ⟨g, 0, none⟩) (n + 1) c) (n + 1) (xs.take (i * 12) ++ us ++ xs.drop (i * 12)) ∧ w.grownBy W2 (some g)) :=
    ⟨insC_own g (n + 1) c _ cur2 W2 base hg2 hbg hroom hcm (by rw [hs2, hcs]) htk (by simp only [List.length_append, List.length_take, hdl, hu, hxl]; omega), ⟨by rw [hW2, hW1]; rfl, by rw [hW2, hW1]; rfl, by rw [hW2, hW1]; rfl, by rw [hW2, hW1]; simp [World.setRow], fun q _ hq => by
      have hqg : q ≠ g := fun e => hq (by rw [e])
      rw [hW2, setRow_other W1 g q cur2 hqg, hW1, setRow_other w.drew g q cur1 hqg]
      rfl⟩⟩
  have HRet : Hid (∀ e, e = Ending.returned (.slice (some ⟨g, 0, none⟩) (n + 1) c) → RetinsC (some ⟨g, 0, none⟩) n c i xs us w base e W2) := fun e he => ⟨_, c, he, HF.out.1, own_before (insC_own g n c xs cur w base hg hbg (by omega) hcm hcs htake hxl) hbase HF.out.2, HF.out.2⟩
  have hcp1 : ∀ ty dc sc, (Builtin.copy_ #[31, 31] ty #[.slice (some ⟨g, (i + 1) * 12, none⟩) (n - i) dc, .slice (some ⟨g, i * 12, none⟩) (n + 1 - i) sc]).run Try.prog w.drew = .ok (goInt ((n - i : Nat) : Int)) W1 := fun ty dc sc => by
    rw [hW1, hcur1]
    exact run_copy_k w.drew 31 ty 45 _ 12 128 Try.underlying31 infoC g ((i + 1) * 12) (n - i) dc cur 45 hdr ⟨g, i * 12, none⟩ (n + 1 - i) sc (n - i) (xs.drop (i * 12)) (Nat.min_eq_right (by omega)) hdl (fun j v hj => by rw [Addr.add_lit]; exact hcell w.drew hdr _ v (by rw [List.getElem?_drop] at hj; exact hj)) hfit1 (fun v hv => h1x v (List.mem_of_mem_drop hv))
  have hcp2 : ∀ ty dc, (Builtin.copy_ #[31, 31] ty #[.slice (some ⟨g, i * 12, none⟩) (n + 1 - i) dc, .slice (some ⟨vb, 0, none⟩) 1 1]).run Try.prog W1 = .ok (goInt 1) W2 := fun ty dc => by
    rw [hW2, hcur2]
    exact run_copy_k W1 31 ty 45 _ 12 128 Try.underlying31 infoC g (i * 12) (n + 1 - i) dc cur1 45 hg1 ⟨vb, 0, none⟩ 1 1 1 us (Nat.min_eq_left (by omega)) (by rw [hu]) (fun j v hj => by rw [Addr.add_lit, Nat.zero_add, hU1.cell j]; exact hj) hfit2 h1
  have hov : ∀ lb cb, (callFunc 57 #[.slice (some ⟨vb, 0, none⟩) 1 1, .slice (some ⟨g, (i + 1) * 12, none⟩) lb cb]).run Try.prog w = .ok (.value (.bool false)) w := fun lb cb => by
    rw [run_callFunc_extern Try.func57 (by kernel_rfl) (by kernel_rfl) (by kernel_rfl) (e := Extern.SlicesOverlaps.overlaps #[31, 31] #[4]) (by kernel_rfl),
      Lib.run_overlaps_apart w 31 4 45 Try.underlying31 12 hsz ⟨vb, 0, none⟩ ⟨g, (i + 1) * 12, none⟩ 1 1 lb cb hne 45 45 us.length cur.size (by unfold Blk at hU; simp [World.shape?, hU]) (by simp [World.shape?, hg]) (by rw [hcs]; omega) (hU.frozen 0) (hU.frozen _)]
    rfl
  have hz2 : ¬ ((i : Int) = (n : Int)) := by omega
  have hw1 : IntKind.i64.wrap ((i : Int) + 1) = (i : Int) + 1 := by rw [IntKind.wrap_i64]; omega
  have hb2 : ¬ (c = i + 1) := by omega
  have hb4 : ¬ (c = i) := by omega
  have hc0 : ¬ (c = 0) := by omega
  have hin : i ≤ n := by omega
  have hb1 : (0 : Int) ≤ (i : Int) + 1 := by omega
  have hb3 : (i : Int) ≤ (n : Int) + 1 := by omega
  unfold maxLen at hcm
  clear hcell hdl hdr hcur1 hfit1 hs1 hW1 hg1 hU1 hcur2 hfit2 hs2 hW2 hg2 htk HF hsz hi0 hz0 hzs hzb htake hxl h1x hg hcs h1 hU hu
  go_enter Try.func48, Try.ntmps48
  go_wp2_with (simp only [hov])
  have p0 : True := trivial
  refine wp_region_held_drew (S := fun _ => True) (by kernel_rfl) trivial (fun hHeld => ?_)
  refine tk 0 { dst := some 69, op := .move (.tmp 0), type := 31, pos := "slices.go:178", after := #[], guard := none } _ ?_
  try simp only [Act.put, List.setIfInBounds_toArray, List.set_cons_zero, List.set_cons_succ]
  refine tk 1 { dst := some 70, op := .move (.tmp 1), type := 3, pos := "slices.go:178", after := #[], guard := none } _ ?_
  try simp only [Act.put, List.setIfInBounds_toArray, List.set_cons_zero, List.set_cons_succ]
  refine tk 2 { dst := some 71, op := .move (.tmp 7), type := 3, pos := "slices.go:178", after := #[], guard := none } _ ?_
  try simp only [Act.put, List.setIfInBounds_toArray, List.set_cons_zero, List.set_cons_succ]
  refine tk 3 { dst := some 72, op := .binOp .add 3 (.tmp 70) (.tmp 71) 3, type := 3, pos := "slices.go:178", after := #[{ on := 1, ground := .data }, { on := 2, ground := .data }], guard := none } _ ?_
  try simp only [Act.put, List.setIfInBounds_toArray, List.set_cons_zero, List.set_cons_succ]
  refine tk 4 { dst := some 73, op := .slice 31 (.tmp 69) (some (.tmp 72)) none none, type := 31, pos := "slices.go:178", after := #[{ on := 0, ground := .data }, { on := 3, ground := .data }], guard := none } _ ?_
  try simp only [Act.put, List.setIfInBounds_toArray, List.set_cons_zero, List.set_cons_succ]
  refine tk 5 { dst := some 74, op := .move (.tmp 0), type := 31, pos := "slices.go:178", after := #[], guard := none } _ ?_
  try simp only [Act.put, List.setIfInBounds_toArray, List.set_cons_zero, List.set_cons_succ]
  refine tk 6 { dst := some 75, op := .move (.tmp 1), type := 3, pos := "slices.go:178", after := #[], guard := none } _ ?_
  try simp only [Act.put, List.setIfInBounds_toArray, List.set_cons_zero, List.set_cons_succ]
  refine tk 7 { dst := some 76, op := .slice 31 (.tmp 74) (some (.tmp 75)) none none, type := 31, pos := "slices.go:178", after := #[{ on := 5, ground := .data }, { on := 6, ground := .data }], guard := none } _ ?_
  try simp only [Act.put, List.setIfInBounds_toArray, List.set_cons_zero, List.set_cons_succ]
  refine wpAnyH_ready (rs := [8]) (by kernel_rfl) (by simp) ?_
  refine AllReadyH.cons (o := { dst := some 77, op := .call { callee := .builtin .copy, args := #[.tmp 73, .tmp 76], argTypes := #[31, 31] }, type := 3, pos := "slices.go:178", after := #[{ on := 4, ground := .data }, { on := 7, ground := .data }], guard := none }) rfl (fun KQ hKQ => ?_) AllReadyH.nil
  refine step_copy_run rfl _ _ 31 31 rfl _ _ rfl rfl (hcp1 _ _ _) ?_
  refine hKQ.out _ _ ?s_8 (fun hHeld8 => ?_)
  case s_8 => trivial
  clear hKQ KQ
  try simp only [Act.put, List.setIfInBounds_toArray, List.set_cons_zero, List.set_cons_succ]
  refine wpAnyH_done (by kernel_rfl) ?_ _
  go_wp2_with (at_builtin; refine wpList_copy_run rfl _ _ 31 TS rfl _ _ rfl rfl (hcp2 _ _) ?_)
  go_ret
  exact HRet.out _ rfl
set_option maxRecDepth 100000 in
set_option maxHeartbeats 4000000 in
theorem insC_grow (hi : i < n) (hg : w.heap[g]? = some (.cells cur 45 (0, 0))) (hbg : base ≤ g) (hnc : n ≤ c) (hcm : c ≤ maxLen) (hcs : cur.size = c * 12) (htake : cur.toList.take (n * 12) = xs) (hxl : xs.length = n * 12) (h1x : ∀ u ∈ xs, u.oneCell' = true) (hu : us.length = 12) (h1 : ∀ u ∈ us, u.oneCell' = true) (hU : Blk 45 w vb us) (hb : n ≤ 1000000) (hbase : base ≤ w.heap.size) (hroom : c < n + 1) :
    Calls Try.prog 48 #[.slice (some ⟨g, 0, none⟩) n c, .int .i64 i, .slice (some ⟨vb, 0, none⟩) 1 1] w (RetinsC (some ⟨g, 0, none⟩) n c i xs us w base) := by
  obtain ⟨i0, hi0, hz0, hzs, hzb⟩ := info_parts infoC
  have hglt : g < w.heap.size := lt_of_block hg
  have hcell : ∀ (wq : World), wq.heap[g]? = some (.cells cur 45 (0, 0)) → ∀ j u, xs[j]? = some u → wq.cell? ⟨g, j, none⟩ = some u := fun wq hq j u hj => by
    rw [cell_of_row wq g j cur 45 (0, 0) hq, ← Array.getElem?_toList]
    rw [← htake, List.getElem?_take] at hj
    split at hj
    · exact hj
    · cases hj
  have hdl : (xs.drop (i * 12)).length = (n - i) * 12 := by rw [List.length_drop, hxl, Nat.sub_mul]
  have hdr : w.drew.heap[g]? = some (.cells cur 45 (0, 0)) := hg
  have hkk : (n : Int) + 1 - (i : Int) = ((n + 1 - i : Nat) : Int) := by omega
  have hik : i + (n + 1 - i) = n + 1 := by omega
  have hold : (Builtin.firstCells i0.size i (.slice (some ⟨g, 0, none⟩) i c)).run Try.prog w.drew = .ok (xs.take (i * 12)).toArray w.drew := by
    rw [hzs]
    have := run_loadCells_list (P := Try.prog) w.drew ⟨g, 0, none⟩ (xs.take (i * 12)) (fun j v hj => by
      rw [Addr.add_lit, Nat.zero_add]
      rw [List.getElem?_take] at hj
      split at hj
      · exact hcell w.drew hdr j v hj
      · cases hj)
    rw [List.length_take, hxl, Nat.min_eq_left (Nat.mul_le_mul_right _ (Nat.le_of_lt hi))] at this
    exact this
  obtain ⟨G, hG⟩ : ∃ G, G = grownCap w (n + 1) c 45 := ⟨_, rfl⟩
  have hGn : n + 1 ≤ G := by rw [hG]; exact grownCap_ge w _ _ _
  have hG63 : G ≤ maxLen := by rw [hG]; exact grownCap_le_maxLen w (n + 1) c 45 (by unfold maxLen; omega)
  obtain ⟨z, hz⟩ : ∃ z, i0.zero = some z ∧ z.cells.size = 12 := ⟨_, hz0, rfl⟩
  obtain ⟨ROW, hROW⟩ : ∃ ROW : Array Value, ROW = (xs.take (i * 12)).toArray ++ Builtin.zeroCells z.cells (n + 1 - i) ++ Builtin.zeroCells z.cells (G - (n + 1)) := ⟨_, rfl⟩
  have hRs : ROW.size = G * 12 := by
    rw [hROW]
    simp only [Array.size_append, List.size_toArray, List.length_take, size_zeroCells, hz.2, hxl]
    omega
  have hRt : ROW.toList.take (i * 12) = xs.take (i * 12) := by
    rw [hROW]
    simp only [Array.toList_append, List.append_assoc]
    rw [List.take_append_of_le_length (by rw [List.length_take, hxl]; omega)]
    exact List.take_of_length_le (by rw [List.length_take]; omega)
  obtain ⟨W1, hW1⟩ : ∃ W1, W1 = w.drew.alloc (.cells ROW 45) := ⟨_, rfl⟩
  have hrz : ∀ ty, (Builtin.append_ #[31, 3] ty #[.slice (some ⟨g, 0, none⟩) i c, .int .i64 ((n : Int) + 1 - (i : Int))]).run Try.prog w = .ok (.slice (some ⟨w.heap.size, 0, none⟩) (n + 1) G) W1 := fun ty => by
    have h := Lib.run_append_grow_zeros (P := Try.prog) w 31 3 ty 45 i0 z .i64 .i64 Try.underlying31 Try.underlying3 hi0 hz.1 (some ⟨g, 0, none⟩) i c (xs.take (i * 12)) hold (n + 1 - i) (by omega) (by rw [hzs]; omega) (by omega) (by omega) (by rw [hzb]; omega) (by rw [hzb, hik]; have := nextslicecap_le (need := n + 1) (old := c) (by omega); omega)
    rw [hik, ← hG, ← hROW, ← hW1] at h
    rw [hkk]
    exact h
  obtain ⟨N, hN⟩ : ∃ N, N = w.heap.size := ⟨_, rfl⟩
  have hgN : W1.heap[N]? = some (.cells ROW 45 (0, 0)) := by rw [hW1, hN]; exact heap_alloc_new w.drew _
  have hold1 : ∀ q, q < w.heap.size → W1.heap[q]? = w.heap[q]? := fun q hq => by rw [hW1]; exact heap_alloc_old w.drew _ hq
  have hU1 : Blk 45 W1 vb us := by unfold Blk; rw [hold1 vb hU.lt]; exact hU
  obtain ⟨cur1, hcur1⟩ : ∃ cur1, cur1 = laidAt ROW (i * 12) us := ⟨_, rfl⟩
  have hfit1 : i * 12 + us.length ≤ ROW.size := by rw [hRs, hu]; omega
  have hs1 : cur1.size = ROW.size := by rw [hcur1]; exact laidAt_size hfit1
  obtain ⟨W2, hW2⟩ : ∃ W2, W2 = W1.setRow N cur1 := ⟨_, rfl⟩
  have hg2 : W2.drew.heap[N]? = some (.cells cur1 45 (0, 0)) := by rw [hW2]; exact setRow_heap W1 N ROW cur1 45 (0, 0) hgN
  have hgN2 : g ≠ N := by omega
  have hgg2 : W2.drew.heap[g]? = some (.cells cur 45 (0, 0)) := by rw [hW2]; exact ((setRow_other W1 N g cur1 hgN2).trans (hold1 g hglt)).trans hg
  obtain ⟨cur2, hcur2⟩ : ∃ cur2, cur2 = laidAt cur1 ((i + 1) * 12) (xs.drop (i * 12)) := ⟨_, rfl⟩
  have hfit2 : (i + 1) * 12 + (xs.drop (i * 12)).length ≤ cur1.size := by rw [hs1, hRs, hdl]; omega
  have hs2 : cur2.size = ROW.size := by rw [hcur2, laidAt_size hfit2, hs1]
  obtain ⟨W3, hW3⟩ : ∃ W3, W3 = W2.drew.setRow N cur2 := ⟨_, rfl⟩
  have hg3 : W3.heap[N]? = some (.cells cur2 45 (0, 0)) := by rw [hW3]; exact setRow_heap W2.drew N cur1 cur2 45 (0, 0) hg2
  have htk : cur2.toList.take ((n + 1) * 12) = xs.take (i * 12) ++ us ++ xs.drop (i * 12) := by
    rw [hcur2, hcur1]
    unfold laidAt
    simp only []
    rw [show (i + 1) * 12 = i * 12 + 12 by omega, show (n + 1) * 12 = n * 12 + 12 by omega]
    exact laid_two' hRt hxl (by omega) hu (by rw [Array.length_toList, hRs]; omega)
  have hW3s : W3.heap.size = w.heap.size + 1 := by rw [hW3, hW2, hW1]; simp [World.setRow]
  have HF : Hid (W3.ownsRow base 45 12 (.slice (some ⟨N, 0, none⟩) (n + 1) G) (n + 1) (xs.take (i * 12) ++ us ++ xs.drop (i * 12)) ∧ w.grownBy W3 (some g)) :=
    ⟨insC_own N (n + 1) G _ cur2 W3 base hg3 (by omega) hGn hG63 (by rw [hs2, hRs]) htk (by simp only [List.length_append, List.length_take, hdl, hu, hxl]; omega), ⟨by rw [hW3, hW2, hW1]; rfl, by rw [hW3, hW2, hW1]; rfl, by rw [hW3, hW2, hW1]; rfl, by omega, fun q hq _ => by
      have hqN : q ≠ N := by omega
      rw [hW3, setRow_other W2.drew N q cur2 hqN]
      show W2.heap[q]? = _
      rw [hW2, setRow_other W1 N q cur1 hqN]
      exact hold1 q hq⟩⟩
  have HRet : Hid (∀ e, e = Ending.returned (.slice (some ⟨N, 0, none⟩) (n + 1) G) → RetinsC (some ⟨g, 0, none⟩) n c i xs us w base e W3) := fun e he => ⟨_, G, he, HF.out.1, own_before (insC_own g n c xs cur w base hg hbg hnc hcm hcs htake hxl) hbase HF.out.2, HF.out.2⟩
  have hcp1 : ∀ ty dc, (Builtin.copy_ #[31, 31] ty #[.slice (some ⟨N, i * 12, none⟩) (n + 1 - i) dc, .slice (some ⟨vb, 0, none⟩) 1 1]).run Try.prog W1 = .ok (goInt 1) W2 := fun ty dc => by
    rw [hW2, hcur1]
    exact run_copy_k W1 31 ty 45 _ 12 128 Try.underlying31 infoC N (i * 12) (n + 1 - i) dc ROW 45 hgN ⟨vb, 0, none⟩ 1 1 1 us (Nat.min_eq_left (by omega)) (by rw [hu]) (fun j v hj => by rw [Addr.add_lit, Nat.zero_add, hU1.cell j]; exact hj) hfit1 h1
  have hcp2 : ∀ ty dc sc, (Builtin.copy_ #[31, 31] ty #[.slice (some ⟨N, (i + 1) * 12, none⟩) (n - i) dc, .slice (some ⟨g, i * 12, none⟩) (n - i) sc]).run Try.prog W2.drew = .ok (goInt ((n - i : Nat) : Int)) W3 := fun ty dc sc => by
    rw [hW3, hcur2]
    exact run_copy_k W2.drew 31 ty 45 _ 12 128 Try.underlying31 infoC N ((i + 1) * 12) (n - i) dc cur1 45 hg2 ⟨g, i * 12, none⟩ (n - i) sc (n - i) (xs.drop (i * 12)) (Nat.min_eq_left (by omega)) hdl (fun j v hj => by rw [Addr.add_lit]; exact hcell W2.drew hgg2 _ v (by rw [List.getElem?_drop] at hj; exact hj)) hfit2 (fun v hv => h1x v (List.mem_of_mem_drop hv))
  have hz2 : ¬ ((i : Int) = (n : Int)) := by omega
  have hw1 : IntKind.i64.wrap ((i : Int) + 1) = (i : Int) + 1 := by rw [IntKind.wrap_i64]; omega
  have hb2 : ¬ (c = i) := by omega
  have hb4 : ¬ (G = i) := by omega
  have hb5 : ¬ (G = i + 1) := by omega
  have hc0 : ¬ (c = 0) := by omega
  have hin : i ≤ n := by omega
  have hb1 : (0 : Int) ≤ (i : Int) + 1 := by omega
  have hb3 : (i : Int) ≤ (n : Int) + 1 := by omega
  unfold maxLen at hcm hG63
  rw [← hN] at hrz
  clear hcell hdl hdr hcur1 hfit1 hs1 hW1 hgN hold1 hU1 hcur2 hfit2 hs2 hW2 hg2 hgg2 htk HF hi0 hz0 hzs hzb htake hxl h1x hg hcs h1 hU hu hkk hik hold hG hz hROW hRs hRt hW3 hg3 hW3s hglt hgN2 hN
  go_enter Try.func48, Try.ntmps48
  go_wp2_with (first
    | (at_builtin; refine wpList_appendz_run rfl _ _ _ _ rfl _ _ rfl rfl (hrz _) ?_)
    | (at_builtin; refine wpList_copy_run rfl _ _ 31 TS rfl _ _ rfl rfl (hcp1 _ _) ?_))
  have p0 : True := trivial
  refine wp_region_held_drew (S := fun _ => True) (by kernel_rfl) trivial (fun hHeld => ?_)
  refine tk 0 { dst := some 46, op := .move (.tmp 9), type := 31, pos := "slices.go:154", after := #[], guard := none } _ ?_
  try simp only [Act.put, List.setIfInBounds_toArray, List.set_cons_zero, List.set_cons_succ]
  refine tk 1 { dst := some 47, op := .move (.tmp 1), type := 3, pos := "slices.go:154", after := #[], guard := none } _ ?_
  try simp only [Act.put, List.setIfInBounds_toArray, List.set_cons_zero, List.set_cons_succ]
  refine tk 2 { dst := some 48, op := .move (.tmp 7), type := 3, pos := "slices.go:154", after := #[], guard := none } _ ?_
  try simp only [Act.put, List.setIfInBounds_toArray, List.set_cons_zero, List.set_cons_succ]
  refine tk 3 { dst := some 49, op := .binOp .add 3 (.tmp 47) (.tmp 48) 3, type := 3, pos := "slices.go:154", after := #[{ on := 1, ground := .data }, { on := 2, ground := .data }], guard := none } _ ?_
  try simp only [Act.put, List.setIfInBounds_toArray, List.set_cons_zero, List.set_cons_succ]
  refine tk 4 { dst := some 50, op := .slice 31 (.tmp 46) (some (.tmp 49)) none none, type := 31, pos := "slices.go:154", after := #[{ on := 0, ground := .data }, { on := 3, ground := .data }], guard := none } _ ?_
  try simp only [Act.put, List.setIfInBounds_toArray, List.set_cons_zero, List.set_cons_succ]
  refine tk 5 { dst := some 51, op := .move (.tmp 0), type := 31, pos := "slices.go:154", after := #[], guard := none } _ ?_
  try simp only [Act.put, List.setIfInBounds_toArray, List.set_cons_zero, List.set_cons_succ]
  refine tk 6 { dst := some 52, op := .move (.tmp 1), type := 3, pos := "slices.go:154", after := #[], guard := none } _ ?_
  try simp only [Act.put, List.setIfInBounds_toArray, List.set_cons_zero, List.set_cons_succ]
  refine tk 7 { dst := some 53, op := .slice 31 (.tmp 51) (some (.tmp 52)) none none, type := 31, pos := "slices.go:154", after := #[{ on := 5, ground := .data }, { on := 6, ground := .data }], guard := none } _ ?_
  try simp only [Act.put, List.setIfInBounds_toArray, List.set_cons_zero, List.set_cons_succ]
  refine wpAnyH_ready (rs := [8]) (by kernel_rfl) (by simp) ?_
  refine AllReadyH.cons (o := { dst := some 54, op := .call { callee := .builtin .copy, args := #[.tmp 50, .tmp 53], argTypes := #[31, 31] }, type := 3, pos := "slices.go:154", after := #[{ on := 4, ground := .data }, { on := 7, ground := .data }], guard := none }) rfl (fun KQ hKQ => ?_) AllReadyH.nil
  refine step_copy_run rfl _ _ 31 31 rfl _ _ rfl rfl (hcp2 _ _ _) ?_
  refine hKQ.out _ _ ?s_8 (fun hHeld8 => ?_)
  case s_8 => trivial
  clear hKQ KQ
  try simp only [Act.put, List.setIfInBounds_toArray, List.set_cons_zero, List.set_cons_succ]
  refine wpAnyH_done (by kernel_rfl) ?_ _
  go_wp2_with fail
  go_ret
  exact HRet.out _ rfl
end
theorem insC_any (A : Option Addr) (n c i : Nat) (xs us : List Value) (w : World) (base vb : Nat) (hown : w.ownsRow base 45 12 (.slice A n c) n xs) (hi : i ≤ n) (h1x : ∀ u ∈ xs, u.oneCell' = true) (hu : us.length = 12) (h1 : ∀ u ∈ us, u.oneCell' = true) (hU : Blk 45 w vb us) (hne : Value.ownBlock (.slice A n c) ≠ some vb) (hb : n ≤ 1000000) (hbase : base ≤ w.heap.size) :
    Calls Try.prog 48 #[.slice A n c, .int .i64 i, .slice (some ⟨vb, 0, none⟩) 1 1] w (RetinsC A n c i xs us w base) := by
  rcases Nat.lt_or_ge i n with hlt | hge
  · have hxl := hown.1
    rcases hown.2 with ⟨hv, h0⟩ | ⟨g, cap, cur, hv, hbg, hg, hnc, hcm, hcs, htake⟩
    · omega
    · simp only [Value.slice.injEq] at hv
      obtain ⟨rfl, _, rfl⟩ := hv
      rcases Nat.lt_or_ge c (n + 1) with hr | hr
      · exact insC_grow g n c i xs us cur w base vb hlt hg hbg hnc hcm hcs htake hxl h1x hu h1 hU hb hbase hr
      · exact insC_room g n c i xs us cur w base vb hlt hg hbg hcm hcs htake hxl h1x hu h1 hU (fun e => hne (by rw [e]; rfl)) hb hbase hr
  · obtain rfl : i = n := by omega
    exact insC_end A i c xs us w base vb hown hu h1 hU hb hbase
end Go.Proofs.Ytlkhmpfdajefiaa.ins
