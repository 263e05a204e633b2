/- What the document's answer to conf (antipoderef10) tells of a joint, configuration by configuration. Conditions: sets are uint16 values, numbers int. -/
import Derived.Test.YtfcljdpjjabhjaaDoorRef10
namespace Go.Proofs.YtfcljdpjjabhjaaDoor.ref10
open Go Go.RowKit Go.Proofs.YtfcljdpjjabhjaaDoor.kit Go.Proofs.YtfcljdpjjabhjaaDoor.nums Go.Proofs.YtfcljdpjjabhjaaDoor.se Go.Proofs.YtfcljdpjjabhjaaDoor.cf
set_option linter.unusedVariables false

/-- The configurations of a joint. -/
def twoL (j : JtL) : List CfL := if j.two then [j.a, j.b] else [j.a]
theorem two_len (j : JtL) : 1 ≤ (twoL j).length ∧ (twoL j).length ≤ 2 := by
  unfold twoL; split <;> simp
theorem two_ok {j : JtL} (h : j.ok) : ∀ c ∈ twoL j, c.ok := by
  unfold twoL
  intro c hc
  split at hc
  · rcases List.mem_cons.1 hc with rfl | hc
    · exact h.1
    · rw [List.mem_singleton] at hc; subst hc; exact h.2
  · rw [List.mem_singleton] at hc; subst hc; exact h.1
theorem two_may {j : JtL} (h : mayJ j = true) : ∀ c ∈ twoL j, mayC c = true := by
  unfold twoL
  intro c hc
  split at hc <;> rename_i ht
  · rcases List.mem_cons.1 hc with rfl | hc
    · exact mayJ_a h
    · rw [List.mem_singleton] at hc; subst hc; exact mayJ_b h ht
  · rw [List.mem_singleton] at hc; subst hc; exact mayJ_a h
theorem both_all (j : JtL) (P : CfL → Bool) : bothJ j P = (twoL j).all P := by
  unfold bothJ twoL
  cases j.two <;> simp
theorem all_bad {L : List CfL} {P : CfL → Bool} {c : CfL} {i : Nat} (h : L[i]? = some c) (hP : P c = false) : L.all P = false := by
  rw [List.all_eq_false]; exact ⟨c, List.mem_of_getElem? h, by simp [hP]⟩
theorem all_good {L : List CfL} {P : CfL → Bool} {k : Nat} (h : ∀ c ∈ L.take k, P c = true) (hk : L.length = k) : L.all P = true := by
  rw [List.all_eq_true]; intro c hc; exact h c (by rw [← hk, List.take_length]; exact hc)
theorem take_more {L : List CfL} {P : CfL → Bool} {c : CfL} {i : Nat} (h : ∀ c ∈ L.take i, P c = true) (hc : L[i]? = some c) (hP : P c = true) : ∀ c ∈ L.take (i + 1), P c = true := by
  obtain ⟨hi, rfl⟩ := List.getElem?_eq_some_iff.1 hc
  rw [List.take_succ_eq_append_getElem hi]
  intro x hx
  rcases List.mem_append.1 hx with hx | hx
  · exact h x hx
  · rw [List.mem_singleton] at hx; subst hx; exact hP
theorem fold_more {L : List CfL} (f : Nat → CfL → Nat) {c : CfL} {i : Nat} (hc : L[i]? = some c) : (L.take (i + 1)).foldl f 0 = f ((L.take i).foldl f 0) c := by
  obtain ⟨hi, rfl⟩ := List.getElem?_eq_some_iff.1 hc
  rw [List.take_succ_eq_append_getElem hi, List.foldl_append]; rfl
theorem fold_lt {f : Nat → CfL → Nat} : ∀ (L : List CfL) (s : Nat), s < 65536 → (∀ s c, s < 65536 → c ∈ L → f s c < 65536) → L.foldl f s < 65536
  | [], s, hs, _ => hs
  | c :: L, s, hs, h => fold_lt L (f s c) (h s c hs (List.mem_cons_self ..)) (fun s c hs hc => h s c hs (List.mem_cons_of_mem _ hc))
theorem two_any (j : JtL) (w : World) : Calls Tryd.prog 43 #[jtV j] w fun e w' => ∃ p, e = .returned (.slice (some ⟨p, 0, none⟩) (twoL j).length (twoL j).length) ∧ p < w'.heap.size ∧ Below w.heap.size w w' ∧ ∀ i c, (twoL j)[i]? = some c → At w' p (i * 5) (cfC c) := by
  unfold jtV twoL
  obtain ⟨⟨av, aw, al, ae, ak⟩, ⟨bv, bw, bl, be, bk⟩, t⟩ := j
  dsimp only at *
  have hB := (Below.refl w.heap.size w).alloc (Nat.le_refl _) (.cells #[.int .u16 (av : Int), .int .u16 (aw : Int), .int .u16 (al : Int), .int .i64 ae, .int .i64 ak, .int .u16 (bv : Int), .int .u16 (bw : Int), .int .u16 (bl : Int), .int .i64 be, .int .i64 bk, .bool t] 43)
  have hs := hB.size
  cases t
  · have hB2 := hB.alloc hs (.cells #[.int .u16 (av : Int), .int .u16 (aw : Int), .int .u16 (al : Int), .int .i64 ae, .int .i64 ak] 30)
    have hA := at_new (w.alloc (.cells #[.int .u16 (av : Int), .int .u16 (aw : Int), .int .u16 (al : Int), .int .i64 ae, .int .i64 ak, .int .u16 (bv : Int), .int .u16 (bw : Int), .int .u16 (bl : Int), .int .i64 be, .int .i64 bk, .bool false] 43)) 30 (cfC ⟨av, aw, al, ae, ak⟩)
    go_enter Tryd.func43, Tryd.ntmps43
    go_wp2_with fail
    go_ret
    refine ⟨w.heap.size + 1, rfl, by simp, hB2, fun i c hc => ?_⟩
    have h0 : i = 0 := by
      rcases i with _ | i
      · rfl
      · simp at hc
    subst h0
    have hc := Option.some.inj hc
    subst hc
    have hsz : (w.alloc (.cells #[.int .u16 (av : Int), .int .u16 (aw : Int), .int .u16 (al : Int), .int .i64 ae, .int .i64 ak, .int .u16 (bv : Int), .int .u16 (bw : Int), .int .u16 (bl : Int), .int .i64 be, .int .i64 bk, .bool false] 43)).heap.size = w.heap.size + 1 := by simp
    rw [hsz] at hA
    exact hA
  · have hB2 := hB.alloc hs (.cells #[.int .u16 (av : Int), .int .u16 (aw : Int), .int .u16 (al : Int), .int .i64 ae, .int .i64 ak, .int .u16 (bv : Int), .int .u16 (bw : Int), .int .u16 (bl : Int), .int .i64 be, .int .i64 bk] 30)
    have hA := at_new (w.alloc (.cells #[.int .u16 (av : Int), .int .u16 (aw : Int), .int .u16 (al : Int), .int .i64 ae, .int .i64 ak, .int .u16 (bv : Int), .int .u16 (bw : Int), .int .u16 (bl : Int), .int .i64 be, .int .i64 bk, .bool true] 43)) 30 (cfC ⟨av, aw, al, ae, ak⟩ ++ cfC ⟨bv, bw, bl, be, bk⟩)
    go_enter Tryd.func43, Tryd.ntmps43
    go_wp2_with fail
    go_ret
    refine ⟨w.heap.size + 1, rfl, by simp, hB2, fun i c hc => ?_⟩
    have hsz : (w.alloc (.cells #[.int .u16 (av : Int), .int .u16 (aw : Int), .int .u16 (al : Int), .int .i64 ae, .int .i64 ak, .int .u16 (bv : Int), .int .u16 (bw : Int), .int .u16 (bl : Int), .int .i64 be, .int .i64 bk, .bool true] 43)).heap.size = w.heap.size + 1 := by simp
    rw [hsz] at hA
    rcases i with _ | i
    · have hc := Option.some.inj hc
      subst hc
      intro q u hu
      have hq : q < 5 := (List.getElem?_eq_some_iff.1 hu).1
      have := hA q u (by rw [List.getElem?_append_left (by exact hq)]; exact hu)
      rw [show 0 * 5 + q = 0 + q by omega]
      exact this
    · have h0 : i = 0 := by
        rcases i with _ | i
        · rfl
        · simp at hc
      subst h0
      have hc := Option.some.inj hc
      subst hc
      intro q u hu
      have := hA (5 + q) u (by rw [List.getElem?_append_right (by show 5 ≤ 5 + q; omega)]; show _ = _; rw [show 5 + q - (cfC ⟨av, aw, al, ae, ak⟩).length = q by show 5 + q - 5 = q; omega]; exact hu)
      rw [show (0 + 1) * 5 + q = 0 + (5 + q) by omega]
      exact this
end Go.Proofs.YtfcljdpjjabhjaaDoor.ref10
